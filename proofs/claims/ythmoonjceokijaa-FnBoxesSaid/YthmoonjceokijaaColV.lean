/- Chapter 2: the box that has a parcel: contracts of the model's and the program's search. -/
import Derived.Test.YthmoonjceokijaaColR
import Derived.Test.YthmoonjceokijaaColE
namespace Go.Proofs.Ythmoonjceokijaa
open Go.RowKit
set_option linter.unusedVariables false

/-- the first index at which the test holds -/
def fIdx (p : Bx → Bool) : List Bx → Nat → Int
  | [], _ => -1
  | a :: r, k => if p a = true then k else fIdx p r (k + 1)
theorem fIdx_drop (p : Bx → Bool) (l : List Bx) (k : Nat) (a : Bx) (hk : l[k]? = some a) : fIdx p (l.drop k) k = if p a = true then (k : Int) else fIdx p (l.drop (k + 1)) (k + 1) := by
  have hlt : k < l.length := (List.getElem?_eq_some_iff.1 hk).1
  rw [List.drop_eq_getElem_cons hlt]
  have : l[k] = a := by rw [List.getElem?_eq_getElem hlt] at hk; injection hk
  rw [this]; rfl
theorem fIdx_cases (p : Bx → Bool) : ∀ (l : List Bx) (k : Nat), (fIdx p l k = -1 ∧ ∀ x ∈ l, p x = false) ∨ ∃ (j : Nat) (x : Bx), fIdx p l k = ((k + j : Nat) : Int) ∧ l[j]? = some x ∧ p x = true
  | [], k => .inl ⟨rfl, fun x hx => by cases hx⟩
  | a :: r, k => by
    unfold fIdx
    by_cases h : p a = true
    · rw [if_pos h]; exact .inr ⟨0, a, rfl, rfl, h⟩
    · rw [if_neg h]
      rcases fIdx_cases p r (k + 1) with ⟨h1, h2⟩ | ⟨j, x, h1, h2, h3⟩
      · refine .inl ⟨h1, fun x hx => ?_⟩
        rcases List.mem_cons.1 hx with e | e
        · rw [e]; simpa using h
        · exact h2 x e
      · exact .inr ⟨j + 1, x, by rw [h1]; push_cast; omega, by simpa using h2, h3⟩
theorem fIdx_congr {p q : Bx → Bool} : ∀ (l : List Bx) (k : Nat), (∀ x ∈ l, p x = q x) → fIdx p l k = fIdx q l k
  | [], _, _ => rfl
  | a :: r, k, h => by
    unfold fIdx
    rw [h a List.mem_cons_self, fIdx_congr r (k + 1) fun x hx => h x (List.mem_cons_of_mem _ hx)]
theorem fIdx_lt {p : Bx → Bool} {l : List Bx} (h : 0 ≤ fIdx p l 0) : ∃ (j : Nat) (x : Bx), fIdx p l 0 = (j : Int) ∧ l[j]? = some x ∧ p x = true := by
  rcases fIdx_cases p l 0 with ⟨h1, _⟩ | ⟨j, x, h1, h2, h3⟩
  · omega
  · exact ⟨j, x, by rw [h1]; simp, h2, h3⟩
def hasP (c : Int) (x : Bx) : Bool := x.par == c
def hasP0 (c : Int) (x : Bx) : Bool := x.par == c && decide (0 < c)

set_option maxRecDepth 100000 in
set_option maxHeartbeats 1000000 in
theorem boxS_any (w : World) (B : Nat) (A A' : Option Addr) (n n' : Nat) (z p : Int) (f : Nat) (L : List Bx) (lb : L.length ≤ maxLen) (hB : B ≤ w.heap.size) (hS : XL w B A' L) :
    Calls Try.prog 31 #[.agg #[.int .i64 z, .slice A f n, .slice A' L.length n'], .int .i64 p] w fun e w' => e = .returned (.int .i64 (fIdx (hasP0 p) L 0)) ∧ Below w.heap.size w w' := by
  unfold maxLen at lb
  have HS := Lib.hid hS; clear hS
  go_enter Try.func31, Try.ntmps31
  go_wp2
  generalize hW0 : (w.alloc (.cells #[.int .i64 z, .slice A f n, .slice A' L.length n'] 27)) = w0
  have b0 : Below w.heap.size w w0 := by rw [← hW0]; exact balloc _ _
  have K0 := Lib.hid (show Has w0 w.heap.size 27 #[.int .i64 z, .slice A f n, .slice A' L.length n'] by rw [← hW0]; exact has_new _ _ _)
  clear hW0
  go_loopw [5] (fun i wr => ∃ k : Nat, k ≤ L.length ∧ i = .int .i64 k ∧ fIdx (hasP0 p) L 0 = fIdx (hasP0 p) (L.drop k) k ∧ Below w0.heap.size w0 wr) (fun i _ => L.length - (intOf i).toNat)
  case atStart => exact ⟨0, Nat.zero_le _, rfl, by simp, Below.refl _ _⟩
  case round =>
    obtain ⟨k, hk, rfl, hno, hb⟩ := hrel
    have HN := Lib.hid hno; clear hno
    have ck := bthen b0 hb
    have kk := has_call K0.out hb
    have e2 := has_cell kk 2 rfl
    have hlw := has_lt kk
    clear kk
    by_cases hlt : k < L.length
    · obtain ⟨b, off, x, rfl, hbB, hx, hc0, hc1, hc2, hc3⟩ := (HS.out.later hB ck).at_ hlt
      have hst := fIdx_drop (hasP0 p) L k x hx
      obtain ⟨x0, x1, x2, x3⟩ := x
      dsimp only at hc0 hc1 hc2 hc3
      clear hx
      have hbw : b < wr.heap.size := by have := ck.size; omega
      by_cases e : x2 = p
      · have eb : (x2 == p) = true := by simpa using e
        by_cases hp : 0 < p
        · have hq : hasP0 p ⟨x0, x1, x2, x3⟩ = true := by simp [hasP0, e, hp]
          rw [if_pos hq] at hst
          have HST := Lib.hid hst; clear hst hq
          go_wp2
          go_ret
          exact ⟨ret_int (by rw [HN.out, HST.out]), ck⟩
        · have hq : ¬ hasP0 p ⟨x0, x1, x2, x3⟩ = true := by simp [hasP0, hp]
          rw [if_neg hq] at hst
          have HST := Lib.hid hst; clear hst hq
          go_wp2
          go_roundw
          case rel => exact ⟨k + 1, by omega, by go_num, by rw [HN.out, HST.out], hb⟩
          case measure => simp [intOf]; omega
      · have eb : (x2 == p) = false := by simpa using e
        have hq : ¬ hasP0 p ⟨x0, x1, x2, x3⟩ = true := by simp [hasP0, e]
        rw [if_neg hq] at hst
        have HST := Lib.hid hst; clear hst hq
        go_wp2
        go_roundw
        case rel => exact ⟨k + 1, by omega, by go_num, by rw [HN.out, HST.out], hb⟩
        case measure => simp [intOf]; omega
    · go_wp2
      go_ret
      have hkl : k = L.length := by omega
      subst hkl
      exact ⟨ret_int (by rw [HN.out, List.drop_length]; rfl), ck⟩

set_option maxRecDepth 100000 in
theorem boxT_any (w : World) (g : Nat) (x0 x1 x2 : Int) (x3 : Bool) (p : Int) (hg : g < w.heap.size) (hp : w.cell? ⟨g, 0, none⟩ = some (.int .i64 p)) :
    Calls Try.prog 51 #[.agg #[.int .i64 x0, .int .i64 x1, .int .i64 x2, .bool x3], .pointer (some ⟨g, 0, none⟩)] w fun e w' => e = .returned (.bool (hasP p ⟨x0, x1, x2, x3⟩)) ∧ Below w.heap.size w w' := by
  have hq : hasP p ⟨x0, x1, x2, x3⟩ = (x2 == p) := rfl
  rw [hq]
  clear hq
  go_enter Try.func51, Try.ntmps51
  go_wp2
  go_ret
  exact ⟨rfl, balloc _ _⟩

set_option maxRecDepth 100000 in
set_option maxHeartbeats 1000000 in
theorem boxJ_any (w : World) (B g : Nat) (A : Option Addr) (n : Nat) (p : Int) (L : List Bx) (lb : L.length ≤ maxLen) (hB : B ≤ w.heap.size) (hS : XL w B A L) (hg : g < w.heap.size) (hp : w.cell? ⟨g, 0, none⟩ = some (.int .i64 p)) :
    Calls Try.prog 50 #[.slice A L.length n, .func (.func 51) #[] #[.pointer (some ⟨g, 0, none⟩)]] w fun e w' => e = .returned (.int .i64 (fIdx (hasP p) L 0)) ∧ Below w.heap.size w w' := by
  unfold maxLen at lb
  have HS := Lib.hid hS; clear hS
  go_enter Try.func50, Try.ntmps50
  go_wp2
  go_loopw [8] (fun i wr => ∃ k : Nat, k ≤ L.length ∧ i = .int .i64 k ∧ fIdx (hasP p) L 0 = fIdx (hasP p) (L.drop k) k ∧ Below w.heap.size w wr) (fun i _ => L.length - (intOf i).toNat)
  case atStart => exact ⟨0, Nat.zero_le _, rfl, by simp, Below.refl _ _⟩
  case round =>
    obtain ⟨k, hk, rfl, hno, hb⟩ := hrel
    have HN := Lib.hid hno; clear hno
    have hpr := (bold hb g 0 hg).trans hp
    have HPR := Lib.hid hpr; clear hpr
    have hsz := hb.size
    by_cases hlt : k < L.length
    · obtain ⟨b, off, x, rfl, hbB, hx, hc0, hc1, hc2, hc3⟩ := (HS.out.later hB hb).at_ hlt
      have hst := fIdx_drop (hasP p) L k x hx
      obtain ⟨x0, x1, x2, x3⟩ := x
      dsimp only at hc0 hc1 hc2 hc3
      clear hx
      have HST := Lib.hid hst; clear hst
      go_wp2_with fail
      refine (boxT_any wr g x0 x1 x2 x3 p (by omega) HPR.out).mono ?_
      rintro e w2 ⟨rfl, hb2⟩
      have hst := HST.out
      generalize hasP p ⟨x0, x1, x2, x3⟩ = q at *
      cases q
      · rw [if_neg (by simp)] at hst
        have HST2 := Lib.hid hst; clear hst HST
        go_wp2
        go_roundw
        case rel => exact ⟨k + 1, by omega, by go_num, by rw [HN.out, HST2.out], bthen hb hb2⟩
        case measure => simp [intOf]; omega
      · rw [if_pos rfl] at hst
        have HST2 := Lib.hid hst; clear hst HST
        go_wp2
        go_ret
        exact ⟨ret_int (by rw [HN.out, HST2.out]), bthen hb hb2⟩
    · go_wp2
      go_ret
      have hkl : k = L.length := by omega
      subst hkl
      exact ⟨ret_int (by rw [HN.out, List.drop_length]; rfl), hb⟩

set_option maxRecDepth 100000 in
set_option maxHeartbeats 1000000 in
theorem boxI_any (w : World) (B : Nat) (A A' : Option Addr) (n n' : Nat) (z p : Int) (f : Nat) (L : List Bx) (lb : L.length ≤ maxLen) (hB : B ≤ w.heap.size) (hS : XL w B A' L) :
    Calls Try.prog 26 #[.agg #[.int .i64 z, .slice A f n, .slice A' L.length n'], .int .i64 p] w fun e w' => e = .returned (.int .i64 (fIdx (hasP p) L 0)) ∧ Below w.heap.size w w' := by
  have HS := Lib.hid hS; clear hS
  go_enter Try.func26, Try.ntmps26
  go_wp2_with fail
  generalize hW0 : (w.alloc (.cells #[.int .i64 z, .slice A f n, .slice A' L.length n'] 27)).alloc (.cells #[.int .i64 p] 3) = w0
  have b0 : Below w.heap.size w w0 := by rw [← hW0]; exact bthen (balloc _ _) (balloc _ _)
  have k1 : Has w0 (w.heap.size + 1) 3 #[.int .i64 p] := by rw [← hW0]; have := has_new (w.alloc (.cells #[.int .i64 z, .slice A f n, .slice A' L.length n'] 27)) 3 #[.int .i64 p]; simpa using this
  clear hW0
  refine (boxJ_any w0 B (w.heap.size + 1) A' n' p L lb (by have := b0.size; omega) (HS.out.later hB b0) (has_lt k1) (has_cell k1 0 rfl)).mono ?_
  rintro e w1 ⟨rfl, hb1⟩
  go_wp2_with fail
  go_ret
  exact ⟨rfl, bthen b0 hb1⟩
end Go.Proofs.Ythmoonjceokijaa
