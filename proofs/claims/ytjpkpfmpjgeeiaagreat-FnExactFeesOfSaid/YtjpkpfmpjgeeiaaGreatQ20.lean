
/- Chapter 6, plain: terms, deadlines, what storage costs, the next rise, the least number of extensions, bills. -/
import Derived.Test.YtjpkpfmpjgeeiaaGreatQ19
namespace Go.Proofs.YtjpkpfmpjgeeiaaGreat
open Go.RowKit
set_option linter.unusedVariables false

structure Tm where
  keep : Int
  free : Int
  step : Int
  rate : Int
  cap : Int
  longer : Int
  price : Int
  most : Int
structure St where
  size : Int
  start : Int
  stop : Int
  ext : Int
def termsB (t : Tm) : Bool := inB t.keep 1 2000 && inB t.step 1 2000 && inB t.longer 1 2000 && inB t.free 0 2000 && inB t.rate 0 10000 && inB t.cap 0 1000000 && inB t.price 0 100000 && inB t.most 0 20
theorem in_iff (x a b : Int) : inB x a b = true ↔ a ≤ x ∧ x ≤ b := by simp [inB]
theorem terms_iff (t : Tm) : termsB t = true ↔ (1 ≤ t.keep ∧ t.keep ≤ 2000) ∧ (1 ≤ t.step ∧ t.step ≤ 2000) ∧ (1 ≤ t.longer ∧ t.longer ≤ 2000) ∧ (0 ≤ t.free ∧ t.free ≤ 2000) ∧ (0 ≤ t.rate ∧ t.rate ≤ 10000) ∧ (0 ≤ t.cap ∧ t.cap ≤ 1000000) ∧ (0 ≤ t.price ∧ t.price ≤ 100000) ∧ (0 ≤ t.most ∧ t.most ≤ 20) := by
  simp only [termsB, Bool.and_eq_true, in_iff, and_assoc]

/-- the deadline -/
def deadB (o c : List (Int × Int)) (t : Tm) (a e : Int) : Option Int := if termsB t = true ∧ 0 ≤ e ∧ e ≤ t.most then afterB o c a (t.keep + t.longer * e) else none

/-- the least number of extensions -/
def leastB (o c : List (Int × Int)) (t : Tm) (a u : Int) : Nat → Int → Option Int
  | 0, _ => none
  | f + 1, e => match deadB o c t a e with
    | some x => if u ≤ x then some e else leastB o c t a u f (e + 1)
    | none => leastB o c t a u f (e + 1)
def lstB (o c : List (Int × Int)) (t : Tm) (a u : Int) : Option Int := if termsB t = true then leastB o c t a u (t.most + 1).toNat 0 else none

/-- overdue, and whether it can be extended -/
def overB (o c : List (Int × Int)) (t : Tm) (a n e : Int) : Bool := match deadB o c t a e with
  | some x => decide (x < n) && decide (n ≤ 20000)
  | none => false
def extB (o c : List (Int × Int)) (t : Tm) (a n e : Int) : Bool := (deadB o c t a e).isSome && (deadB o c t a (e + 1)).isSome && inB n a 20000 && !overB o c t a n e

/-- storage -/
def stepsB (t : Tm) (h : Int) : Int := (max (h - t.free) 0 + t.step - 1) / t.step
def storB (t : Tm) (z h : Int) : Int := min (stepsB t h * t.rate * z) t.cap
def feeOk (o c : List (Int × Int)) (t : Tm) (z a b e : Int) : Prop := weekB o c = true ∧ termsB t = true ∧ (1 ≤ z ∧ z ≤ 24) ∧ timeB a = true ∧ timeB b = true ∧ a ≤ b ∧ 0 ≤ e ∧ e ≤ t.most
instance feeOkDec (o c : List (Int × Int)) (t : Tm) (z a b e : Int) : Decidable (feeOk o c t z a b e) := by unfold feeOk; infer_instance
def feeB (o c : List (Int × Int)) (t : Tm) (z a b e : Int) : Int := if feeOk o c t z a b e then storB t z (hoursB o c a b) + t.price * e else -1
/-- the next rise -/
def riseB (o c : List (Int × Int)) (t : Tm) (z s : Int) : Nat → Int → Int → Option Int
  | 0, _, _ => none
  | f + 1, x, h => if s < storB t z (h + (if openB o c (x - 1) = true then 1 else 0)) then some x else riseB o c t z s f (x + 1) (h + (if openB o c (x - 1) = true then 1 else 0))
def nextB (o c : List (Int × Int)) (t : Tm) (z a b e : Int) : Option Int := if feeOk o c t z a b e then riseB o c t z (storB t z (hoursB o c a b)) (20000 - b).toNat (b + 1) (hoursB o c a b) else none
/-- the hours at which the next step begins -/
def atB (t : Tm) (h : Int) : Int := t.free + stepsB t h * t.step + 1
/-- bills -/
def sumB (o c : List (Int × Int)) (t : Tm) : List St → Int → Option Int
  | [], s => some s
  | x :: r, s => if feeB o c t x.size x.start x.stop x.ext = -1 then none else sumB o c t r (s + feeB o c t x.size x.start x.stop x.ext)
def billB (o c : List (Int × Int)) (t : Tm) (l : List St) : Option Int := if weekB o c = true ∧ termsB t = true ∧ (l.length : Int) ≤ 20 then sumB o c t l 0 else none
/-- the cheapest terms -/
def cheapB (o c : List (Int × Int)) (l : List St) : List Tm → Int → Int → Int → Int
  | [], _, best, _ => best
  | t :: r, i, best, least => match billB o c t l with
    | some x => if best < 0 ∨ x < least then cheapB o c l r (i + 1) i x else cheapB o c l r (i + 1) best least
    | none => cheapB o c l r (i + 1) best least
def bestB (o c : List (Int × Int)) (ts : List Tm) (l : List St) : Int := if (ts.length : Int) ≤ 20 then cheapB o c l ts 0 (-1) 0 else -1
end Go.Proofs.YtjpkpfmpjgeeiaaGreat
