/- Chapter 3: codes: plain facts: the last six digits of a number, and the least count with a property. -/
import Derived.Test.YtjpafmkmpnibgabDoorMem
import Derived.WalkSpells
import Derived.OwnWalk
namespace Go.Proofs.YtjpafmkmpnibgabDoor
open Go.RowKit
set_option linter.unusedVariables false

/-- the last n decimal digits of m -/
def lowD : Nat → Nat → List Int
  | 0, _ => []
  | n + 1, m => (48 + ((m / 10 ^ n % 10 : Nat) : Int)) :: lowD n m
theorem lowD_len : ∀ n m, (lowD n m).length = n
  | 0, _ => rfl
  | n + 1, m => by rw [lowD, List.length_cons, lowD_len n m]
theorem lowD_snoc : ∀ n m, lowD (n + 1) m = lowD n (m / 10) ++ [48 + ((m % 10 : Nat) : Int)]
  | 0, m => by simp [lowD]
  | n + 1, m => by
    have h := lowD_snoc n m
    rw [lowD, h, lowD, List.cons_append, Nat.div_div_eq_div_mul, Nat.pow_succ, Nat.mul_comm 10]
theorem lowD_zero : ∀ n, lowD n 0 = List.replicate n 48
  | 0 => rfl
  | n + 1 => by rw [lowD, lowD_zero n, List.replicate_succ]; simp
theorem lowD_mod (x : Nat) : lowD 6 (x % 1000000) = lowD 6 x := by
  simp only [lowD]
  have h5 : x % 1000000 / 10 ^ 5 % 10 = x / 10 ^ 5 % 10 := by omega
  have h4 : x % 1000000 / 10 ^ 4 % 10 = x / 10 ^ 4 % 10 := by omega
  have h3 : x % 1000000 / 10 ^ 3 % 10 = x / 10 ^ 3 % 10 := by omega
  have h2 : x % 1000000 / 10 ^ 2 % 10 = x / 10 ^ 2 % 10 := by omega
  have h1 : x % 1000000 / 10 ^ 1 % 10 = x / 10 ^ 1 % 10 := by omega
  have h0 : x % 1000000 / 10 ^ 0 % 10 = x / 10 ^ 0 % 10 := by omega
  rw [h5, h4, h3, h2, h1, h0]

def mul1 (x : Int) : Int := x * 48271 % 2147483647
theorem mul1_bd (x : Int) (h : 0 ≤ x) : 0 ≤ mul1 x ∧ mul1 x < 2147483647 := by unfold mul1; omega
def start3 (s c : Int) : Int := (s + 65537 * c) % 2147483647
theorem start3_bd (s c : Int) : 0 ≤ start3 s c ∧ start3 s c < 2147483647 := by unfold start3; omega
def codeX (s c : Int) : Int := mul1 (mul1 (mul1 (start3 s c)))
theorem codeX_bd (s c : Int) : 0 ≤ codeX s c ∧ codeX s c < 2147483647 := mul1_bd _ (mul1_bd _ (mul1_bd _ (start3_bd s c).1).1).1
def secB (s : Int) : Bool := decide (1 ≤ s) && decide (s ≤ 2147483646)
def cntB3 (c : Int) : Bool := decide (0 ≤ c) && decide (c ≤ 1000000)
def nextB (c : Int) : Bool := decide (0 ≤ c) && decide (c ≤ 1000001)
theorem secB_iff {s : Int} : secB s = true ↔ 1 ≤ s ∧ s ≤ 2147483646 := by simp [secB]
theorem cntB3_iff {c : Int} : cntB3 c = true ↔ 0 ≤ c ∧ c ≤ 1000000 := by simp [cntB3]
theorem nextB_iff {c : Int} : nextB c = true ↔ 0 ≤ c ∧ c ≤ 1000001 := by simp [nextB]
/-- the text of a count -/
def codeT (s c : Int) : ByteArray := if secB s = true ∧ cntB3 c = true then strOfNums (lowD 6 (codeX s c).toNat) else ⟨#[]⟩
theorem codeT_no {s c : Int} (h : ¬ (secB s = true ∧ cntB3 c = true)) : codeT s c = ⟨#[]⟩ := if_neg h
theorem codeT_yes {s c : Int} (h : secB s = true) (h' : cntB3 c = true) : codeT s c = strOfNums (lowD 6 (codeX s c).toNat) := if_pos ⟨h, h'⟩
theorem codeT_size (s c : Int) : (codeT s c).size ≤ 6 := by
  unfold codeT; split
  · rw [strOfNums_size, lowD_len]; omega
  · show (0 : Nat) ≤ 6; omega

/-- the least number of the n from k on that has p; -1 if there is none -/
def findN (p : Int → Bool) : Int → Nat → Int
  | _, 0 => -1
  | k, n + 1 => if p k then k else findN p (k + 1) n
theorem findN_zero (p : Int → Bool) (k : Int) : findN p k 0 = -1 := rfl
theorem findN_yes (p : Int → Bool) (k : Int) (n : Nat) (h : p k = true) : findN p k (n + 1) = k := by rw [findN, if_pos h]
theorem findN_no (p : Int → Bool) (k : Int) (n : Nat) (h : p k = false) : findN p k (n + 1) = findN p (k + 1) n := by rw [findN, if_neg (by rw [h]; simp)]
theorem findN_bd (p : Int → Bool) : ∀ (n : Nat) (k : Int), findN p k n = -1 ∨ (k ≤ findN p k n ∧ findN p k n < k + n ∧ p (findN p k n) = true)
  | 0, k => .inl rfl
  | n + 1, k => by
    cases h : p k
    · rw [findN_no p k n h]
      rcases findN_bd p n (k + 1) with h1 | ⟨h1, h2, h3⟩
      · exact .inl h1
      · exact .inr ⟨by omega, by omega, h3⟩
    · rw [findN_yes p k n h]
      exact .inr ⟨by omega, by omega, h⟩

def inR (x a b : Int) : Bool := decide (a ≤ x) && decide (x ≤ b)
def lockB (s n t p u : Int) : Bool := secB s && nextB n && inR t 0 2 && inR p 0 6 && inR u 0 20064
theorem inR_iff {x a b : Int} : inR x a b = true ↔ a ≤ x ∧ x ≤ b := by simp [inR]
theorem inR_no {x a b : Int} : inR x a b = false ↔ ¬ (a ≤ x ∧ x ≤ b) := by rw [← inR_iff]; simp
theorem lockB_iff {s n t p u : Int} : lockB s n t p u = true ↔ (1 ≤ s ∧ s ≤ 2147483646) ∧ (0 ≤ n ∧ n ≤ 1000001) ∧ (0 ≤ t ∧ t ≤ 2) ∧ (0 ≤ p ∧ p ≤ 6) ∧ (0 ≤ u ∧ u ≤ 20064) := by
  simp [lockB, secB, nextB, inR, and_assoc]
def pow2 (p : Int) : Int := 2 ^ p.toNat
theorem pow2_bd {p : Int} (h : p ≤ 6) : 1 ≤ pow2 p ∧ pow2 p ≤ 64 := by
  have h1 : (2 : Nat) ^ p.toNat ≤ 2 ^ 6 := Nat.pow_le_pow_right (by omega) (by omega)
  have h2 : 0 < (2 : Nat) ^ p.toNat := Nat.pow_pos (by omega)
  have e : pow2 p = ((2 ^ p.toNat : Nat) : Int) := by simp [pow2]
  rw [e]; omega
end Go.Proofs.YtjpafmkmpnibgabDoor
