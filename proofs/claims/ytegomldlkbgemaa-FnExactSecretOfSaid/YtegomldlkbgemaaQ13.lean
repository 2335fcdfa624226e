/- Chapter 3: codes: plain facts: the last six digits of a number, and the least count with a property. -/
import Derived.Test.YtegomldlkbgemaaQ01
import Derived.WalkSpells
import Derived.OwnWalk
import Derived.Test.YtegomldlkbgemaaQ08
import Derived.Deep.QuietTactic
import Derived.BigQuiet
import Derived.Deep.RegionHeld3
namespace Go.Proofs.Ytegomldlkbgemaa
open Go.RowKit
set_option linter.unusedVariables false

/-- the last n decimal digits of m -/
def lowD : Nat → Nat → List Int
  | 0, _ => []
  | n + 1, m => (48 + ((m / 10 ^ n % 10 : Nat) : Int)) :: lowD n m
theorem lowD_len : ∀ n m, (lowD n m).length = n
  | 0, _ => rfl
  | n + 1, m => by rw [lowD, List.length_cons, lowD_len n m]
theorem lowD_snoc : ∀ n m, lowD (n + 1) m = lowD n (m / 10) ++ [48 + ((m % 10 : Nat) : Int)]
  | 0, m => by simp [lowD]
  | n + 1, m => by
    have h := lowD_snoc n m
    rw [lowD, h, lowD, List.cons_append, Nat.div_div_eq_div_mul, Nat.pow_succ, Nat.mul_comm 10]
theorem lowD_zero : ∀ n, lowD n 0 = List.replicate n 48
  | 0 => rfl
  | n + 1 => by rw [lowD, lowD_zero n, List.replicate_succ]; simp
theorem lowD_mod (x : Nat) : lowD 6 (x % 1000000) = lowD 6 x := by
  simp only [lowD]
  have h5 : x % 1000000 / 10 ^ 5 % 10 = x / 10 ^ 5 % 10 := by omega
  have h4 : x % 1000000 / 10 ^ 4 % 10 = x / 10 ^ 4 % 10 := by omega
  have h3 : x % 1000000 / 10 ^ 3 % 10 = x / 10 ^ 3 % 10 := by omega
  have h2 : x % 1000000 / 10 ^ 2 % 10 = x / 10 ^ 2 % 10 := by omega
  have h1 : x % 1000000 / 10 ^ 1 % 10 = x / 10 ^ 1 % 10 := by omega
  have h0 : x % 1000000 / 10 ^ 0 % 10 = x / 10 ^ 0 % 10 := by omega
  rw [h5, h4, h3, h2, h1, h0]

def mul1 (x : Int) : Int := x * 48271 % 2147483647
theorem mul1_bd (x : Int) (h : 0 ≤ x) : 0 ≤ mul1 x ∧ mul1 x < 2147483647 := by unfold mul1; omega
def start3 (s c : Int) : Int := (s + 65537 * c) % 2147483647
theorem start3_bd (s c : Int) : 0 ≤ start3 s c ∧ start3 s c < 2147483647 := by unfold start3; omega
def codeX (s c : Int) : Int := mul1 (mul1 (mul1 (start3 s c)))
theorem codeX_bd (s c : Int) : 0 ≤ codeX s c ∧ codeX s c < 2147483647 := mul1_bd _ (mul1_bd _ (mul1_bd _ (start3_bd s c).1).1).1
def secB (s : Int) : Bool := decide (1 ≤ s) && decide (s ≤ 2147483646)
def cntB3 (c : Int) : Bool := decide (0 ≤ c) && decide (c ≤ 1000000)
def nxtB3 (c : Int) : Bool := decide (0 ≤ c) && decide (c ≤ 1000001)
theorem secB_iff {s : Int} : secB s = true ↔ 1 ≤ s ∧ s ≤ 2147483646 := by simp [secB]
theorem cntB3_iff {c : Int} : cntB3 c = true ↔ 0 ≤ c ∧ c ≤ 1000000 := by simp [cntB3]
theorem nxtB3_iff {c : Int} : nxtB3 c = true ↔ 0 ≤ c ∧ c ≤ 1000001 := by simp [nxtB3]
/-- the text of a count -/
def codeT (s c : Int) : ByteArray := if secB s = true ∧ cntB3 c = true then strOfNums (lowD 6 (codeX s c).toNat) else ⟨#[]⟩
theorem codeT_no {s c : Int} (h : ¬ (secB s = true ∧ cntB3 c = true)) : codeT s c = ⟨#[]⟩ := if_neg h
theorem codeT_yes {s c : Int} (h : secB s = true) (h' : cntB3 c = true) : codeT s c = strOfNums (lowD 6 (codeX s c).toNat) := if_pos ⟨h, h'⟩
theorem codeT_size (s c : Int) : (codeT s c).size ≤ 6 := by
  unfold codeT; split
  · rw [strOfNums_size, lowD_len]; omega
  · show (0 : Nat) ≤ 6; omega

/-- the least number of the n from k on that has p; -1 if there is none -/
def findN (p : Int → Bool) : Int → Nat → Int
  | _, 0 => -1
  | k, n + 1 => if p k then k else findN p (k + 1) n
theorem findN_zero (p : Int → Bool) (k : Int) : findN p k 0 = -1 := rfl
theorem findN_yes (p : Int → Bool) (k : Int) (n : Nat) (h : p k = true) : findN p k (n + 1) = k := by rw [findN, if_pos h]
theorem findN_no (p : Int → Bool) (k : Int) (n : Nat) (h : p k = false) : findN p k (n + 1) = findN p (k + 1) n := by rw [findN, if_neg (by rw [h]; simp)]
theorem findN_bd (p : Int → Bool) : ∀ (n : Nat) (k : Int), findN p k n = -1 ∨ (k ≤ findN p k n ∧ findN p k n < k + n ∧ p (findN p k n) = true)
  | 0, k => .inl rfl
  | n + 1, k => by
    cases h : p k
    · rw [findN_no p k n h]
      rcases findN_bd p n (k + 1) with h1 | ⟨h1, h2, h3⟩
      · exact .inl h1
      · exact .inr ⟨by omega, by omega, h3⟩
    · rw [findN_yes p k n h]
      exact .inr ⟨by omega, by omega, h⟩

def lockB (s n t p u : Int) : Bool := secB s && nxtB3 n && inR t 0 2 && inR p 0 6 && inR u 0 20064
theorem lockB_iff {s n t p u : Int} : lockB s n t p u = true ↔ (1 ≤ s ∧ s ≤ 2147483646) ∧ (0 ≤ n ∧ n ≤ 1000001) ∧ (0 ≤ t ∧ t ≤ 2) ∧ (0 ≤ p ∧ p ≤ 6) ∧ (0 ≤ u ∧ u ≤ 20064) := by
  simp [lockB, secB, nxtB3, inR, and_assoc]
def pow2 (p : Int) : Int := 2 ^ p.toNat
theorem pow2_bd {p : Int} (h : p ≤ 6) : 1 ≤ pow2 p ∧ pow2 p ≤ 64 := by
  have h1 : (2 : Nat) ^ p.toNat ≤ 2 ^ 6 := Nat.pow_le_pow_right (by omega) (by omega)
  have h2 : 0 < (2 : Nat) ^ p.toNat := Nat.pow_pos (by omega)
  have e : pow2 p = ((2 ^ p.toNat : Nat) : Int) := by simp [pow2]
  rw [e]; omega
end Go.Proofs.Ytegomldlkbgemaa
namespace Go.Proofs.Ytegomldlkbgemaa
open Go.RowKit
set_option linter.unusedVariables false

theorem retv3 {a b : ByteArray} (h : a = b) : Ending.returned (.string b) = .returned (.string a) := by rw [h]
theorem inR_any (w : World) (x a b : Int) : Calls Try.prog 14 #[.int .i64 x, .int .i64 a, .int .i64 b] w fun e w' => e = .returned (.bool (inR x a b)) ∧ w' = w := by
  by_cases h0 : a ≤ x
  · by_cases h1 : x ≤ b
    · go_enter Try.func14, Try.ntmps14
      go_wp2
      go_ret
      exact ⟨rbool (by simp [inR, h0, h1]), rfl⟩
    · go_enter Try.func14, Try.ntmps14
      go_wp2
      go_ret
      exact ⟨rbool (by simp [inR]; omega), rfl⟩
  · go_enter Try.func14, Try.ntmps14
    go_wp2
    go_ret
    exact ⟨rbool (by simp [inR]; omega), rfl⟩
theorem secS_any (w : World) (x : Int) : Calls Try.prog 13 #[.int .i64 x] w fun e w' => e = .returned (.bool (secB x)) ∧ w' = w := by
  go_enter Try.func13, Try.ntmps13
  go_wp2_with fail
  refine (inR_any w x 1 2147483646).mono ?_
  rintro e w' ⟨rfl, rfl⟩
  go_wp2
  go_ret
  exact ⟨rfl, rfl⟩
theorem secI_any (w : World) (x : Int) : Calls Try.prog 20 #[.int .i64 x] w fun e w' => e = .returned (.bool (secB x)) ∧ w' = w := by
  by_cases h0 : 1 ≤ x
  · by_cases h1 : x ≤ 2147483646
    · go_enter Try.func20, Try.ntmps20
      go_wp2
      go_ret
      exact ⟨rbool (by simp [secB, h0, h1]), rfl⟩
    · go_enter Try.func20, Try.ntmps20
      go_wp2
      go_ret
      exact ⟨rbool (by simp [secB]; omega), rfl⟩
  · go_enter Try.func20, Try.ntmps20
    go_wp2
    go_ret
    exact ⟨rbool (by simp [secB]; omega), rfl⟩
end Go.Proofs.Ytegomldlkbgemaa
namespace Go.Proofs.Ytegomldlkbgemaa
open Go.RowKit
set_option linter.unusedVariables false
def padB (s c : Int) : Bool := secB s && nxtB3 c
theorem padB_iff {s c : Int} : padB s c = true ↔ (1 ≤ s ∧ s ≤ 2147483646) ∧ (0 ≤ c ∧ c ≤ 1000001) := by simp [padB, secB, nxtB3]
theorem next_in (n : Int) : nxtB3 n = inR n 0 1000001 := rfl
theorem lockB_alt (s n t p u : Int) : lockB s n t p u = (secB s && nxtB3 n && (decide (0 ≤ t) && decide (t < 3)) && (decide (0 ≤ p) && decide (p ≤ 6)) && (decide (0 ≤ u) && decide (u ≤ 20064))) := by
  have : decide (t < 3) = decide (t ≤ 2) := by rw [decide_eq_decide]; omega
  rw [this]; rfl

end Go.Proofs.Ytegomldlkbgemaa
namespace Go.Proofs.Ytegomldlkbgemaa
open Go.RowKit
set_option linter.unusedVariables false
/-- what NewLock answers -/
def newK (s : Int) : Value := if secB s = true then .tuple #[.agg #[.int .i64 s, .int .i64 0, .int .i64 0, .int .i64 0, .int .i64 0], .bool true] else .tuple #[.agg #[.int .i64 0, .int .i64 0, .int .i64 0, .int .i64 0, .int .i64 0], .bool false]
theorem newK_yes {s : Int} (h : secB s = true) : newK s = .tuple #[.agg #[.int .i64 s, .int .i64 0, .int .i64 0, .int .i64 0, .int .i64 0], .bool true] := if_pos h
theorem newK_no {s : Int} (h : secB s = false) : newK s = .tuple #[.agg #[.int .i64 0, .int .i64 0, .int .i64 0, .int .i64 0, .int .i64 0], .bool false] := if_neg (by rw [h]; simp)
theorem toLock_any (w : World) (s n t p u : Int) : Calls Try.prog 40 #[.agg #[.int .i64 s, .int .i64 n, .int .i64 t, .int .i64 p, .int .i64 u]] w fun e w' => e = .returned (.agg #[.int .i64 s, .int .i64 n, .int .i64 t, .int .i64 p, .int .i64 u]) ∧ Below w.heap.size w w' := by
  go_enter Try.func40, Try.ntmps40
  go_wp2
  exact bodyPost_ret (v := .agg #[.int .i64 s, .int .i64 n, .int .i64 t, .int .i64 p, .int .i64 u]) (by simp [results, Try.results40, go_sem]) rfl ⟨rfl, (((Below.refl _ _).alloc (Nat.le_refl _) _).alloc (by simp) _).alloc (by simp; omega) _⟩
theorem eqLock_any (w : World) (s n t p u : Int) : Calls Try.prog 44 #[.agg #[.int .i64 s, .int .i64 n, .int .i64 t, .int .i64 p, .int .i64 u], .agg #[.int .i64 s, .int .i64 n, .int .i64 t, .int .i64 p, .int .i64 u]] w fun e w' => e = .returned (.bool true) ∧ Below w.heap.size w w' := by
  have hb : Below w.heap.size w ((w.alloc (.cells #[.int .i64 s, .int .i64 n, .int .i64 t, .int .i64 p, .int .i64 u] 76)).alloc (.cells #[.int .i64 s, .int .i64 n, .int .i64 t, .int .i64 p, .int .i64 u] 76)) := ((Below.refl _ _).alloc (Nat.le_refl _) _).alloc (by simp) _
  have e0 : (s != s) = false := by simp
  have e1 : (n != n) = false := by simp
  have e2 : (t != t) = false := by simp
  have e3 : (p != p) = false := by simp
  have e4 : (u != u) = false := by simp
  go_enter Try.func44, Try.ntmps44
  go_wp2
  go_ret
  exact ⟨rfl, hb⟩
/-- the name of a result -/
def tnV (r : Int) : ByteArray := if r = 0 then ⟨#[111, 112, 101, 110]⟩ else if r = 1 then ⟨#[119, 97, 105, 116]⟩ else if r = 2 then ⟨#[119, 114, 111, 110, 103]⟩ else if r = 3 then ⟨#[112, 97, 117, 115, 101]⟩ else if r = 4 then ⟨#[98, 97, 100]⟩ else ⟨#[]⟩
theorem tnV_no {r : Int} (h : ¬ (0 ≤ r ∧ r ≤ 4)) : tnV r = ⟨#[]⟩ := by
  unfold tnV
  rw [if_neg (by omega), if_neg (by omega), if_neg (by omega), if_neg (by omega), if_neg (by omega)]
/-- how many wrong codes are tried: f rounds at most -/
def mostL : Nat → Int → Int → Int → Int → Int
  | 0, _, n, _, _ => n
  | f + 1, time, n, t, p => if t ≤ time then mostL f time (n + 3) (t + pow2 p) (min (p + 1) 6) else n
theorem mostL_out (f : Nat) (time n t p : Int) (h : time < t) : mostL f time n t p = n := by
  cases f
  · rfl
  · rw [mostL, if_neg (by omega)]
theorem mostL_in (f : Nat) (time n t p : Int) (h : t ≤ time) : mostL (f + 1) time n t p = mostL f time (n + 3) (t + pow2 p) (min (p + 1) 6) := by rw [mostL, if_pos h]
def mostV (time : Int) : Int := if time ≤ 20000 then mostL (time + 1).toNat time 0 0 0 else 0
theorem mostV_in {time : Int} (h : time ≤ 20000) : mostV time = mostL (time + 1).toNat time 0 0 0 := if_pos h
theorem mostV_big {time : Int} (h : ¬ time ≤ 20000) : mostV time = 0 := if_neg h
theorem mostV_neg {time : Int} (h : time < 0) : mostV time = 0 := by rw [mostV_in (by omega)]; exact mostL_out _ _ _ _ _ h
end Go.Proofs.Ytegomldlkbgemaa
