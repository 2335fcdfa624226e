
/- Chapter 1: weeks: contracts of IsOpen and of the laws' helpers over weeks. -/
import Derived.Test.YtjpkpfmpjgeeiaaGreatQ11
import Derived.Test.YtjpkpfmpjgeeiaaGreatQ01
import Derived.WalkSpells
import Derived.OwnWalk
namespace Go.Proofs.YtjpkpfmpjgeeiaaGreat
open Go.RowKit
set_option linter.unusedVariables false
set_option maxRecDepth 100000

def szW (left : Int) (n n' : Nat) : Int := if left < n then -1 else szI (left - n) n'
theorem szW_any (w : World) (A A' : Option Addr) (k n k' n' : Nat) (left : Int) (hk : k ≤ maxLen) (hk' : k' ≤ maxLen) (h1 : 0 ≤ left) (h2 : left ≤ 1048576) :
    Calls Tryz.prog 58 #[.agg #[.slice A k n, .slice A' k' n'], .int .i64 left] w fun e w' => e = .returned (.int .i64 (szW left k k')) ∧ Below w.heap.size w w' := by
  have hb0 := fun o => balloc w o
  have H0 := Lib.hid hb0; clear hb0
  by_cases h : left < k
  · have hs : szI left k = -1 := if_pos h
    have hf : szW left k k' = -1 := if_pos h
    have Hs := Lib.hid hs; clear hs
    have Hf := Lib.hid hf; clear hf
    go_enter Tryz.func58, Tryz.ntmps58
    go_wp2_with fail
    refine (sz_any _ _ _ _ _ hk h1 h2).mono ?_
    rintro e w1 ⟨rfl, rfl⟩
    rw [Hs.out]
    go_wp2_with fail
    go_ret
    exact ⟨ret_int Hf.out.symm, H0.out _⟩
  · have hs : szI left k = left - k := if_neg h
    have hf : szW left k k' = szI (left - k) k' := if_neg h
    have Hs := Lib.hid hs; clear hs
    have Hf := Lib.hid hf; clear hf
    by_cases h' : left - k < k'
    · have hs' : szI (left - k) k' = -1 := if_pos h'
      have Hs' := Lib.hid hs'; clear hs'
      go_enter Tryz.func58, Tryz.ntmps58
      go_wp2_with fail
      refine (sz_any _ _ _ _ _ hk h1 h2).mono ?_
      rintro e w1 ⟨rfl, rfl⟩
      rw [Hs.out]
      go_wp2_with fail
      refine (sz_any _ _ _ _ _ hk' (by omega) (by omega)).mono ?_
      rintro e w1 ⟨rfl, rfl⟩
      rw [Hs'.out]
      go_wp2_with fail
      go_ret
      exact ⟨ret_int (Hf.out.trans Hs'.out).symm, H0.out _⟩
    · have hs' : szI (left - k) k' = left - k - k' := if_neg h'
      have Hs' := Lib.hid hs'; clear hs'
      go_enter Tryz.func58, Tryz.ntmps58
      go_wp2_with fail
      refine (sz_any _ _ _ _ _ hk h1 h2).mono ?_
      rintro e w1 ⟨rfl, rfl⟩
      rw [Hs.out]
      go_wp2_with fail
      refine (sz_any _ _ _ _ _ hk' (by omega) (by omega)).mono ?_
      rintro e w1 ⟨rfl, rfl⟩
      rw [Hs'.out]
      go_wp2_with fail
      go_ret
      exact ⟨ret_int (Hf.out.trans Hs'.out).symm, H0.out _⟩

set_option maxHeartbeats 400000 in
theorem eqWeek_any (w : World) (B B' : Nat) (A A' A2 A2' : Option Addr) (n n' n2 n2' : Nat) (o c : List (Int × Int)) (ho : o.length ≤ maxLen) (hc : c.length ≤ maxLen) (hB : B ≤ w.heap.size) (hB' : B' ≤ w.heap.size) (hS : SL w B A o) (hS' : SL w B A' c) (hT : SL w B' A2 o) (hT' : SL w B' A2' c) :
    Calls Tryz.prog 93 #[.agg #[.slice A o.length n, .slice A' c.length n'], .agg #[.slice A2 o.length n2, .slice A2' c.length n2']] w fun e w' => e = .returned (.bool true) ∧ Below w.heap.size w w' := by
  have hb0 : ∀ o1 o2, Below w.heap.size w ((w.alloc o1).alloc o2) := fun o1 o2 => bthen (balloc w o1) (balloc _ o2)
  have HS := Lib.hid hS; clear hS
  have HS' := Lib.hid hS'; clear hS'
  have HT := Lib.hid hT; clear hT
  have HT' := Lib.hid hT'; clear hT'
  have H0 := Lib.hid hb0; clear hb0
  go_enter Tryz.func93, Tryz.ntmps93
  go_wp2_with fail
  refine (eqSpanS_any _ B B' A A2 n n2 o ho (by simp; omega) (by simp; omega) (HS.out.later hB (H0.out _ _)) (HT.out.later hB' (H0.out _ _))).mono ?_
  rintro e w1 ⟨rfl, hb1⟩
  have hbx := bthen (H0.out _ _) hb1
  have hold := bold hb1
  go_wp2_with fail
  clear hold
  refine (eqSpanS_any _ B B' A' A2' n' n2' c hc (by have := hbx.size; omega) (by have := hbx.size; omega) (HS'.out.later hB hbx) (HT'.out.later hB' hbx)).mono ?_
  rintro e w2 ⟨rfl, hb2⟩
  go_wp2_with fail
  go_ret
  exact ⟨rfl, bthen hbx hb2⟩
end Go.Proofs.YtjpkpfmpjgeeiaaGreat
namespace Go.Proofs.YtjpkpfmpjgeeiaaGreat
open Go.RowKit
set_option linter.unusedVariables false

theorem rbool {a b : Bool} (h : a = b) : Ending.returned (.bool a) = .returned (.bool b) := by rw [h]
theorem rint {a b : Int} (h : a = b) : Ending.returned (.int .i64 a) = .returned (.int .i64 b) := by rw [h]
theorem inR_iff {x a b : Int} : inR x a b = true ↔ a ≤ x ∧ x ≤ b := by simp [inR]
def kindB (k : Int) : Bool := k == 1 || k == 2
/-- the operation is done -/
def doneB (k : Int) (f : Bool) : Bool := f == decide (k = 1)
/-- the operation has changed nothing -/
def befDB (k : Int) (f : Bool) : Bool := f == decide (k = 2)
/-- the door is as its step says -/
def fitB (k s : Int) (l o f : Bool) : Bool :=
  if s = 0 then true else if s = 1 then !doneB k f && !l else if s = 2 then !doneB k f && l && !o else if s = 3 then !doneB k f && o
  else if s = 4 then doneB k f && o else if s = 5 then l && !o else if s = 6 then !l else false
def doorB (k s : Int) (l o f : Bool) : Bool :=
  if (o && !l) = true then false else if k = 0 then decide (s = 0) && !l else kindB k && fitB k s l o f
/-- the same in the model's order -/
def doorB2 (k s : Int) (l o f : Bool) : Bool :=
  if inR k 0 2 = false then false else if inR s 0 6 = false then false else if (o && !l) = true then false else if k == 0 then (s == 0) && !l
  else if s == 1 then befDB k f && !l else if s == 2 then befDB k f && l && !o else if s == 3 then befDB k f && o
  else if s == 4 then !befDB k f && o else if s == 5 then l && !o else if s == 6 then !l else true
theorem fit_step {k s : Int} {l o f : Bool} (h : fitB k s l o f = true) : s = 0 ∨ s = 1 ∨ s = 2 ∨ s = 3 ∨ s = 4 ∨ s = 5 ∨ s = 6 := by
  by_cases h0 : s = 0; · simp [h0]
  by_cases h1 : s = 1; · simp [h1]
  by_cases h2 : s = 2; · simp [h2]
  by_cases h3 : s = 3; · simp [h3]
  by_cases h4 : s = 4; · simp [h4]
  by_cases h5 : s = 5; · simp [h5]
  by_cases h6 : s = 6; · simp [h6]
  simp [fitB, h0, h1, h2, h3, h4, h5, h6] at h
theorem doorB_alt (k s : Int) (l o f : Bool) : doorB k s l o f = doorB2 k s l o f := by
  by_cases hs : s = 0 ∨ s = 1 ∨ s = 2 ∨ s = 3 ∨ s = 4 ∨ s = 5 ∨ s = 6
  · by_cases hk : k = 0 ∨ k = 1 ∨ k = 2
    · rcases hk with rfl | rfl | rfl <;> rcases hs with rfl | rfl | rfl | rfl | rfl | rfl | rfl <;> cases l <;> cases o <;> cases f <;> decide
    · have h1 : inR k 0 2 = false := by simp [inR]; omega
      have h2 : kindB k = false := by simp [kindB]; omega
      have h3 : ¬ k = 0 := by omega
      simp [doorB, doorB2, h1, h2, h3]
  · have h1 : inR s 0 6 = false := by simp [inR]; omega
    have h2 : fitB k s l o f = false := by
      cases h : fitB k s l o f
      · rfl
      · exact absurd (fit_step h) hs
    have h3 : ¬ s = 0 := by omega
    simp [doorB, doorB2, h1, h2, h3]
/-- a door, as plain data -/
structure Dr where
  k : Int
  s : Int
  l : Bool
  o : Bool
  f : Bool
deriving DecidableEq
def Dr.ok (d : Dr) : Bool := doorB d.k d.s d.l d.o d.f
def Dr.A (d : Dr) : Array Value := #[.int .i64 d.k, .int .i64 d.s, .bool d.l, .bool d.o, .bool d.f]
def drB (x : Dr × Bool) : Value := .tuple #[.agg x.1.A, .bool x.2]
def begD (d : Dr) (k : Int) : Dr × Bool := if d.ok && (d.k == 0) && kindB k && !doneB k d.f then ({ d with k := k, s := 1 }, true) else (d, false)
def advD (d : Dr) : Dr × Bool :=
  if d.ok = false then (d, false) else if d.s == 0 then (d, false) else if d.s == 1 then ({ d with l := true, s := 2 }, true) else if d.s == 2 then ({ d with o := true, s := 3 }, true)
  else if d.s == 3 then ({ d with f := !d.f, s := 4 }, true) else if d.s == 4 then ({ d with o := false, s := 5 }, true) else if d.s == 5 then ({ d with l := false, s := 6 }, true) else ({ d with k := 0, s := 0 }, true)
def relD (d : Dr) : Dr × Bool :=
  if d.ok = false then (d, false) else if d.s == 4 then ({ d with f := !d.f, s := 3 }, true) else if d.s == 3 then ({ d with o := false, s := 5 }, true) else if d.s == 2 then ({ d with s := 5 }, true) else (d, false)
def cutD (d : Dr) : Dr := if d.ok then { d with s := 0 } else d
def isCutD (d : Dr) : Bool := d.ok && (d.k != 0) && (d.s == 0)
def handD (d : Dr) (a : Int) : Dr × Bool :=
  if isCutD d = false then (d, false) else if (a == 1) && d.l && !d.o then ({ d with o := true }, true) else if (a == 2) && d.o then ({ d with f := !d.f }, true) else if (a == 3) && d.o then ({ d with o := false }, true) else (d, false)
def faultsB (a b c d : Int) : Bool := inR a 0 2 && inR b 0 2 && inR c 0 2 && inR d 0 2
def preF (a b c d : Int) : Nat → Bool
  | 0 => true
  | 1 => inR a 0 2
  | 2 => inR a 0 2 && inR b 0 2
  | 3 => inR a 0 2 && inR b 0 2 && inR c 0 2
  | _ => inR a 0 2 && inR b 0 2 && inR c 0 2 && inR d 0 2
def oneF (x : Int) : Int := if x = 0 then 0 else 1
def preC (a b c d : Int) : Nat → Int
  | 0 => 0
  | 1 => oneF a
  | 2 => oneF a + oneF b
  | 3 => oneF a + oneF b + oneF c
  | _ => oneF a + oneF b + oneF c + oneF d
def cntF (a b c d : Int) : Int := oneF a + oneF b + oneF c + oneF d
def outB (k : Int) (f : Bool) : Int := if doneB k f = true then 3 else 4
def verdB (k : Int) (sw hk sc ey : Bool) : Int :=
  if kindB k = false then 0 else if (sw != hk) = true then 1 else if sw = false then 2 else if (sc != ey) = true then 1 else outB k sc
def truthD (d : Dr) : Int := if d.ok = false then 0 else if (d.k == 0) = true then 0 else if d.o = true then 2 else outB d.k d.f
def signB (t : Bool) (f : Int) : Bool := if f = 1 then false else if f = 2 then true else t
def signsD (d : Dr) (a b c e : Int) : (Bool × Bool × Bool × Bool) × Bool :=
  if d.ok && faultsB a b c e then ((signB (!d.o) a, signB (!d.o) b, signB d.f c, signB d.f e), true) else ((false, false, false, false), false)
def sgA (x : Bool × Bool × Bool × Bool) : Array Value := #[.bool x.1, .bool x.2.1, .bool x.2.2.1, .bool x.2.2.2]
def verdD (k : Int) (x : Bool × Bool × Bool × Bool) : Int := verdB k x.1 x.2.1 x.2.2.1 x.2.2.2
def recD (d : Dr) (a b c e : Int) : Dr × Int × Bool :=
  if d.ok && faultsB a b c e && isCutD d && decide (cntF a b c e ≤ 1) then
    (if verdD d.k (signsD d a b c e).1 = 3 ∨ verdD d.k (signsD d a b c e).1 = 4 then ({ d with k := 0, l := false }, verdD d.k (signsD d a b c e).1, true) else (d, verdD d.k (signsD d a b c e).1, true))
  else (d, 0, false)
def inspD (d : Dr) : Dr × Int × Bool := if isCutD d = true then (⟨0, 0, false, false, d.f⟩, outB d.k d.f, true) else (d, 0, false)
def drI (x : Dr × Int × Bool) : Value := .tuple #[.agg x.1.A, .int .i64 x.2.1, .bool x.2.2]
def stepV (r : Int) : ByteArray := if r = 0 then ⟨#[110, 111, 110, 101]⟩ else if r = 1 then ⟨#[109, 101, 97, 110, 116]⟩ else if r = 2 then ⟨#[108, 111, 111, 115, 101]⟩ else if r = 3 then ⟨#[111, 112, 101, 110]⟩ else if r = 4 then ⟨#[109, 111, 118, 101, 100]⟩ else if r = 5 then ⟨#[115, 104, 117, 116]⟩ else if r = 6 then ⟨#[102, 97, 115, 116]⟩ else ⟨#[]⟩
def verdV (r : Int) : ByteArray := if r = 0 then ⟨#[105, 100, 108, 101]⟩ else if r = 1 then ⟨#[97, 115, 107]⟩ else if r = 2 then ⟨#[111, 112, 101, 110]⟩ else if r = 3 then ⟨#[100, 111, 110, 101]⟩ else if r = 4 then ⟨#[117, 110, 100, 111, 110, 101]⟩ else ⟨#[]⟩
theorem inR_no {x a b : Int} : inR x a b = false ↔ ¬ (a ≤ x ∧ x ≤ b) := by rw [← inR_iff]; simp
end Go.Proofs.YtjpkpfmpjgeeiaaGreat
namespace Go.Proofs.YtjpkpfmpjgeeiaaGreat
open Go.RowKit
set_option linter.unusedVariables false
set_option maxRecDepth 100000
set_option maxRecDepth 100000 in
set_option maxHeartbeats 1000000 in
theorem toDoor_any (w : World) (k s : Int) (l o f : Bool) : Calls Tryz.prog 71 #[.agg #[.int .i64 k, .int .i64 s, .bool l, .bool o, .bool f]] w fun e w' => e = .returned (.agg #[.int .i64 k, .int .i64 s, .bool l, .bool o, .bool f]) ∧ Below w.heap.size w w' := by
  go_enter Tryz.func71, Tryz.ntmps71
  go_wp2
  exact bodyPost_ret (v := .agg #[.int .i64 k, .int .i64 s, .bool l, .bool o, .bool f]) (by simp [results, Tryz.results71, go_sem]) rfl ⟨rfl, (((Below.refl _ _).alloc (Nat.le_refl _) _).alloc (by simp) _).alloc (by simp; omega) _⟩
set_option maxRecDepth 100000 in
set_option maxHeartbeats 1000000 in
theorem eqDoor_any (w : World) (k s : Int) (l o f : Bool) : Calls Tryz.prog 95 #[.agg #[.int .i64 k, .int .i64 s, .bool l, .bool o, .bool f], .agg #[.int .i64 k, .int .i64 s, .bool l, .bool o, .bool f]] w fun e w' => e = .returned (.bool true) ∧ Below w.heap.size w w' := by
  have HB := Lib.hid (show Below w.heap.size w ((w.alloc (.cells #[.int .i64 k, .int .i64 s, .bool l, .bool o, .bool f] 86)).alloc (.cells #[.int .i64 k, .int .i64 s, .bool l, .bool o, .bool f] 86)) from ((Below.refl _ _).alloc (Nat.le_refl _) _).alloc (by simp) _)
  have e0 : (k != k) = false := by simp
  have e1 : (s != s) = false := by simp
  have e2 : (l != l) = false := by simp
  have e3 : (o != o) = false := by simp
  have e4 : (f != f) = false := by simp
  go_enter Tryz.func95, Tryz.ntmps95
  go_wp2
  go_ret
  exact ⟨rfl, HB.out⟩
end Go.Proofs.YtjpkpfmpjgeeiaaGreat
