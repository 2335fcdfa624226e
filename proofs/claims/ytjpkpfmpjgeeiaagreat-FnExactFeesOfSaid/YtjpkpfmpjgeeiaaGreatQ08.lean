
/- Chapter 2: banks: what a slice of columns reads as; the laws' helpers over banks. -/
import Derived.Test.YtjpkpfmpjgeeiaaGreatQ05
import Derived.Test.YtjpkpfmpjgeeiaaGreatQ07
namespace Go.Proofs.YtjpkpfmpjgeeiaaGreat
open Go.RowKit
set_option linter.unusedVariables false

def cont (x : Cl) : Int × List Int × List Bx := (x.z, x.F, x.L)
theorem KL.more {w : World} {B B' : Nat} {A : Option Addr} {l : List Cl} (h : KL w B A l) (hB : B ≤ B') : KL w B' A l := by
  rcases h with h | ⟨b, off, rfl, hlt, hc⟩
  · exact .inl h
  · exact .inr ⟨b, off, rfl, by omega, hc⟩
/-- the columns are small enough for the laws -/
def SmallK (l : List Cl) : Prop := ∀ x ∈ l, x.F.length ≤ 1048576 ∧ x.L.length ≤ 1048576
def SizedK (l : List Cl) (r : Int) : Prop := r = -1 ∨ (0 ≤ r ∧ l.length ≤ 1048576 ∧ SmallK l)

theorem colInfo : (Tryz.prog.info? 123).map (fun i => (i.zero, i.size, i.bytes)) = some (some (.agg #[.int .i64 0, .slice none 0 0, .slice none 0 0]), 3, 56) := by kernel_rfl
/-- the rows of a column lie in blocks of their own, at or behind base -/
def RowsK (w : World) (base : Nat) (x : Cl) : Prop := OR w base 3 x.AF (intV x.F) ∧ OR w base 125 x.AB (boxV x.L)
theorem RowsK.below {w w' : World} {base : Nat} {x : Cl} (h : RowsK w base x) (hb : Below w.heap.size w w') : RowsK w' base x := ⟨h.1.below hb, h.2.below hb⟩
theorem RowsK.more {w : World} {base B : Nat} {x : Cl} (h : RowsK w base x) (hB : B ≤ base) : RowsK w B x := ⟨h.1.more hB, h.2.more hB⟩
theorem RowsK.setlow {w : World} {base : Nat} {x : Cl} (h : RowsK w base x) {p : Addr} (hp : p.block < base) (v : Value) : RowsK (w.setCell p v) base x := ⟨h.1.setlow hp v, h.2.setlow hp v⟩
theorem RowsK.cv {w : World} {base : Nat} {x : Cl} (h : RowsK w base x) (hf : x.F.length ≤ maxLen) (hl : x.L.length ≤ maxLen) : CV w w.heap.size x := ⟨h.1.il, h.2.xl, hf, hl⟩
/-- block g holds the first k of n columns -/
structure CopiedK (w : World) (g : Nat) (cs : Array Value) (l' : List Cl) (n : Nat) : Prop where
  heap : Has w g 123 cs
  size : n * 3 ≤ cs.size
  got : ∀ j x, l'[j]? = some x → cs[j * 3]? = some (.int .i64 x.z) ∧ cs[j * 3 + 1]? = some (.slice x.AF x.F.length x.cF) ∧ cs[j * 3 + 2]? = some (.slice x.AB x.L.length x.cB)
theorem CopiedK.cellAt {w : World} {g : Nat} {cs : Array Value} {l' : List Cl} {n j : Nat} (h : CopiedK w g cs l' n) (hj : j < n * 3) : ∃ u, w.cell? ⟨g, j, none⟩ = some u :=
  ⟨cs[j]'(Nat.lt_of_lt_of_le hj h.size), has_cell h.heap j (Array.getElem?_eq_getElem _)⟩
theorem CopiedK.kl {w : World} {g : Nat} {cs : Array Value} {l' : List Cl} {n : Nat} (h : CopiedK w g cs l' n) : KL w w.heap.size (some ⟨g, 0, none⟩) l' :=
  .inr ⟨g, 0, rfl, has_lt h.heap, fun k x hx => by
    have := h.got k x hx
    rw [Nat.zero_add]
    exact ⟨has_cell h.heap _ this.1, has_cell h.heap _ this.2.1, has_cell h.heap _ this.2.2⟩⟩
theorem CopiedK.step {w : World} {g : Nat} {cs : Array Value} {l' : List Cl} {n : Nat} (h : CopiedK w g cs l' n) (hk : l'.length < n) (x : Cl) :
    CopiedK (((w.setCell ⟨g, l'.length * 3, none⟩ (.int .i64 x.z)).setCell ⟨g, l'.length * 3 + 1, none⟩ (.slice x.AF x.F.length x.cF)).setCell ⟨g, l'.length * 3 + 2, none⟩ (.slice x.AB x.L.length x.cB)) g (((cs.setIfInBounds (l'.length * 3) (.int .i64 x.z)).setIfInBounds (l'.length * 3 + 1) (.slice x.AF x.F.length x.cF)).setIfInBounds (l'.length * 3 + 2) (.slice x.AB x.L.length x.cB)) (l' ++ [x]) n := by
  have hsz := h.size
  refine ⟨has_set (has_set (has_set h.heap _ _) _ _) _ _, by simpa using h.size, fun j y hy => ?_⟩
  simp only [Array.getElem?_setIfInBounds, Array.size_setIfInBounds]
  rcases Nat.lt_or_ge j l'.length with hj | hj
  · rw [List.getElem?_append_left hj] at hy
    have := h.got j y hy
    exact ⟨by rw [if_neg (by omega), if_neg (by omega), if_neg (by omega)]; exact this.1, by rw [if_neg (by omega), if_neg (by omega), if_neg (by omega)]; exact this.2.1, by rw [if_neg (by omega), if_neg (by omega), if_neg (by omega)]; exact this.2.2⟩
  · rw [List.getElem?_append_right hj] at hy
    have hjl : j = l'.length := by
      have := (List.getElem?_eq_some_iff.1 hy).1
      simp at this; omega
    subst hjl
    simp at hy
    subst hy
    exact ⟨by rw [if_neg (by omega), if_neg (by omega), if_pos rfl, if_pos (by omega)], by rw [if_neg (by omega), if_pos rfl, if_pos (by omega)], by rw [if_pos rfl, if_pos (by omega)]⟩
theorem cont_snoc {l l' : List Cl} {k : Nat} {x y : Cl} (h : l'.map cont = (l.take k).map cont) (hx : l[k]? = some x) (hy : cont y = cont x) : (l' ++ [y]).map cont = (l.take (k + 1)).map cont := by
  rw [List.take_add_one, hx]
  simp [h, hy]

set_option maxRecDepth 100000 in
set_option maxHeartbeats 2000000 in
theorem eqColumnS_any (w : World) (B B' : Nat) (A A' : Option Addr) (c c' n : Nat) (l l' : List Cl) (hl : l.length ≤ maxLen) (hn : n = l.length) (hc : l'.map cont = l.map cont) (hB : B ≤ w.heap.size) (hB' : B' ≤ w.heap.size) (hS : KL w B A l) (hV : ∀ x ∈ l, CV w B x) (hS' : KL w B' A' l') (hV' : ∀ x ∈ l', CV w B' x) :
    Calls Tryz.prog 94 #[.slice A n c, .slice A' n c'] w fun e w' => e = .returned (.bool true) ∧ Below w.heap.size w w' := by
  unfold maxLen at hl
  subst hn
  have hll : l'.length = l.length := by have := congrArg List.length hc; simpa using this
  have HS := Lib.hid hS; have HV := Lib.hid hV; have HS' := Lib.hid hS'; have HV' := Lib.hid hV'; have HC := Lib.hid hc; have HLL := Lib.hid hll; clear hS hV hS' hV' hc hll
  have e0 : ((l.length : Int) != (l.length : Int)) = false := by simp
  go_enter Tryz.func94, Tryz.ntmps94
  go_wp2
  clear e0
  go_loopw [5] (fun i wr => ∃ k : Nat, k ≤ l.length ∧ i = .int .i64 k ∧ Below w.heap.size w wr) (fun i _ => l.length - (intOf i).toNat)
  case atStart => exact ⟨0, Nat.zero_le _, rfl, Below.refl _ _⟩
  case round =>
    obtain ⟨k, hk, rfl, hb⟩ := hrel
    by_cases hlt : k < l.length
    · have hsz := hb.size
      obtain ⟨b, off, x, rfl, hbB, hx, hc0, hc1, hc2⟩ := (HS.out.below (hb.mono hB)).at_ hlt
      obtain ⟨b', off', y, rfl, hbB', hy, hd0, hd1, hd2⟩ := (HS'.out.below (hb.mono hB')).at_ (k := k) (by rw [HLL.out]; exact hlt)
      have hv := (HV.out x (List.mem_of_getElem? hx)).later hB hb
      have hv' := (HV'.out y (List.mem_of_getElem? hy)).later hB' hb
      have hxy : cont y = cont x := by
        have h1 : (l'.map cont)[k]? = some (cont y) := by rw [List.getElem?_map, hy]; rfl
        have h2 : (l.map cont)[k]? = some (cont x) := by rw [List.getElem?_map, hx]; rfl
        rw [HC.out, h2] at h1; injection h1 with h1; exact h1.symm
      obtain ⟨z, AF, F, cF, AB, L, cB⟩ := x
      obtain ⟨z', AF', F', cF', AB', L', cB'⟩ := y
      simp only [cont, Prod.mk.injEq] at hxy
      obtain ⟨rfl, rfl, rfl⟩ := hxy
      dsimp only at hc0 hc1 hc2 hd0 hd1 hd2
      have HVX := Lib.hid hv; have HVY := Lib.hid hv'; clear hx hy hv hv'
      have hbw : b < wr.heap.size := by omega
      have hbw' : b' < wr.heap.size := by omega
      go_wp2
      go_still_tail 8, (by kernel_rfl)
      change wpList _ _ _ _ _ wr.drew
      go_wp2_with (go_at_call 128; refine (eqColumn_any _ B B' AF AB AF' AB' cF cB cF' cB' z' F' L' HVX.out.lf HVX.out.lb (by simp; omega) (by simp; omega) (HVX.out.f.below (Below.refl _ _).drew) (HVX.out.b.below (Below.refl _ _).drew) (HVY.out.f.below (Below.refl _ _).drew) (HVY.out.b.below (Below.refl _ _).drew)).mono ?_; rintro e w1 ⟨rfl, hb1⟩)
      go_roundw
      case rel => exact ⟨k + 1, by omega, by go_num, (hb.drew).trans (hb1.mono hsz)⟩
      case measure => simp [intOf]; omega
    · go_wp2
      go_ret
      exact ⟨rfl, hb⟩
end Go.Proofs.YtjpkpfmpjgeeiaaGreat
namespace Go.Proofs.YtjpkpfmpjgeeiaaGreat
open Go.RowKit
set_option linter.unusedVariables false

/-- the first index at which the test holds -/
def fIdx (p : Bx → Bool) : List Bx → Nat → Int
  | [], _ => -1
  | a :: r, k => if p a = true then k else fIdx p r (k + 1)
theorem fIdx_drop (p : Bx → Bool) (l : List Bx) (k : Nat) (a : Bx) (hk : l[k]? = some a) : fIdx p (l.drop k) k = if p a = true then (k : Int) else fIdx p (l.drop (k + 1)) (k + 1) := by
  have hlt : k < l.length := (List.getElem?_eq_some_iff.1 hk).1
  rw [List.drop_eq_getElem_cons hlt]
  have : l[k] = a := by rw [List.getElem?_eq_getElem hlt] at hk; injection hk
  rw [this]; rfl
theorem fIdx_cases (p : Bx → Bool) : ∀ (l : List Bx) (k : Nat), (fIdx p l k = -1 ∧ ∀ x ∈ l, p x = false) ∨ ∃ (j : Nat) (x : Bx), fIdx p l k = ((k + j : Nat) : Int) ∧ l[j]? = some x ∧ p x = true
  | [], k => .inl ⟨rfl, fun x hx => by cases hx⟩
  | a :: r, k => by
    unfold fIdx
    by_cases h : p a = true
    · rw [if_pos h]; exact .inr ⟨0, a, rfl, rfl, h⟩
    · rw [if_neg h]
      rcases fIdx_cases p r (k + 1) with ⟨h1, h2⟩ | ⟨j, x, h1, h2, h3⟩
      · refine .inl ⟨h1, fun x hx => ?_⟩
        rcases List.mem_cons.1 hx with e | e
        · rw [e]; simpa using h
        · exact h2 x e
      · exact .inr ⟨j + 1, x, by rw [h1]; push_cast; omega, by simpa using h2, h3⟩
theorem fIdx_lt {p : Bx → Bool} {l : List Bx} (h : 0 ≤ fIdx p l 0) : ∃ (j : Nat) (x : Bx), fIdx p l 0 = (j : Int) ∧ l[j]? = some x ∧ p x = true := by
  rcases fIdx_cases p l 0 with ⟨h1, _⟩ | ⟨j, x, h1, h2, h3⟩
  · omega
  · exact ⟨j, x, by rw [h1]; simp, h2, h3⟩
def hasP (c : Int) (x : Bx) : Bool := x.par == c
def hasP0 (c : Int) (x : Bx) : Bool := x.par == c && decide (0 < c)

set_option maxRecDepth 100000 in
set_option maxHeartbeats 1000000 in
theorem boxS_any (w : World) (B : Nat) (A A' : Option Addr) (n n' : Nat) (z p : Int) (f : Nat) (L : List Bx) (lb : L.length ≤ maxLen) (hB : B ≤ w.heap.size) (hS : XL w B A' L) :
    Calls Tryz.prog 106 #[.agg #[.int .i64 z, .slice A f n, .slice A' L.length n'], .int .i64 p] w fun e w' => e = .returned (.int .i64 (fIdx (hasP0 p) L 0)) ∧ Below w.heap.size w w' := by
  unfold maxLen at lb
  have HS := Lib.hid hS; clear hS
  go_enter Tryz.func106, Tryz.ntmps106
  go_wp2
  generalize hW0 : (w.alloc (.cells #[.int .i64 z, .slice A f n, .slice A' L.length n'] 123)) = w0
  have b0 : Below w.heap.size w w0 := by rw [← hW0]; exact balloc _ _
  have K0 := Lib.hid (show Has w0 w.heap.size 123 #[.int .i64 z, .slice A f n, .slice A' L.length n'] by rw [← hW0]; exact has_new _ _ _)
  clear hW0
  go_loopw [5] (fun i wr => ∃ k : Nat, k ≤ L.length ∧ i = .int .i64 k ∧ fIdx (hasP0 p) L 0 = fIdx (hasP0 p) (L.drop k) k ∧ Below w0.heap.size w0 wr) (fun i _ => L.length - (intOf i).toNat)
  case atStart => exact ⟨0, Nat.zero_le _, rfl, by simp, Below.refl _ _⟩
  case round =>
    obtain ⟨k, hk, rfl, hno, hb⟩ := hrel
    have HN := Lib.hid hno; clear hno
    have ck := bthen b0 hb
    have kk := has_call K0.out hb
    have e2 := has_cell kk 2 rfl
    have hlw := has_lt kk
    clear kk
    by_cases hlt : k < L.length
    · obtain ⟨b, off, x, rfl, hbB, hx, hc0, hc1, hc2, hc3⟩ := (HS.out.later hB ck).at_ hlt
      have hst := fIdx_drop (hasP0 p) L k x hx
      obtain ⟨x0, x1, x2, x3⟩ := x
      dsimp only at hc0 hc1 hc2 hc3
      clear hx
      have hbw : b < wr.heap.size := by have := ck.size; omega
      by_cases e : x2 = p
      · have eb : (x2 == p) = true := by simpa using e
        by_cases hp : 0 < p
        · have hq : hasP0 p ⟨x0, x1, x2, x3⟩ = true := by simp [hasP0, e, hp]
          rw [if_pos hq] at hst
          have HST := Lib.hid hst; clear hst hq
          go_wp2
          go_ret
          exact ⟨ret_int (by rw [HN.out, HST.out]), ck⟩
        · have hq : ¬ hasP0 p ⟨x0, x1, x2, x3⟩ = true := by simp [hasP0, hp]
          rw [if_neg hq] at hst
          have HST := Lib.hid hst; clear hst hq
          go_wp2
          go_roundw
          case rel => exact ⟨k + 1, by omega, by go_num, by rw [HN.out, HST.out], hb⟩
          case measure => simp [intOf]; omega
      · have eb : (x2 == p) = false := by simpa using e
        have hq : ¬ hasP0 p ⟨x0, x1, x2, x3⟩ = true := by simp [hasP0, e]
        rw [if_neg hq] at hst
        have HST := Lib.hid hst; clear hst hq
        go_wp2
        go_roundw
        case rel => exact ⟨k + 1, by omega, by go_num, by rw [HN.out, HST.out], hb⟩
        case measure => simp [intOf]; omega
    · go_wp2
      go_ret
      have hkl : k = L.length := by omega
      subst hkl
      exact ⟨ret_int (by rw [HN.out, List.drop_length]; rfl), ck⟩

set_option maxRecDepth 100000 in
theorem boxT_any (w : World) (g : Nat) (x0 x1 x2 : Int) (x3 : Bool) (p : Int) (hg : g < w.heap.size) (hp : w.cell? ⟨g, 0, none⟩ = some (.int .i64 p)) :
    Calls Tryz.prog 146 #[.agg #[.int .i64 x0, .int .i64 x1, .int .i64 x2, .bool x3], .pointer (some ⟨g, 0, none⟩)] w fun e w' => e = .returned (.bool (hasP p ⟨x0, x1, x2, x3⟩)) ∧ Below w.heap.size w w' := by
  have hq : hasP p ⟨x0, x1, x2, x3⟩ = (x2 == p) := rfl
  rw [hq]
  clear hq
  go_enter Tryz.func146, Tryz.ntmps146
  go_wp2
  go_ret
  exact ⟨rfl, balloc _ _⟩

set_option maxRecDepth 100000 in
set_option maxHeartbeats 1000000 in
theorem boxJ_any (w : World) (B g : Nat) (A : Option Addr) (n : Nat) (p : Int) (L : List Bx) (lb : L.length ≤ maxLen) (hB : B ≤ w.heap.size) (hS : XL w B A L) (hg : g < w.heap.size) (hp : w.cell? ⟨g, 0, none⟩ = some (.int .i64 p)) :
    Calls Tryz.prog 123 #[.slice A L.length n, .func (.func 146) #[] #[.pointer (some ⟨g, 0, none⟩)]] w fun e w' => e = .returned (.int .i64 (fIdx (hasP p) L 0)) ∧ Below w.heap.size w w' := by
  unfold maxLen at lb
  have HS := Lib.hid hS; clear hS
  go_enter Tryz.func123, Tryz.ntmps123
  go_wp2
  go_loopw [8] (fun i wr => ∃ k : Nat, k ≤ L.length ∧ i = .int .i64 k ∧ fIdx (hasP p) L 0 = fIdx (hasP p) (L.drop k) k ∧ Below w.heap.size w wr) (fun i _ => L.length - (intOf i).toNat)
  case atStart => exact ⟨0, Nat.zero_le _, rfl, by simp, Below.refl _ _⟩
  case round =>
    obtain ⟨k, hk, rfl, hno, hb⟩ := hrel
    have HN := Lib.hid hno; clear hno
    have hpr := (bold hb g 0 hg).trans hp
    have HPR := Lib.hid hpr; clear hpr
    have hsz := hb.size
    by_cases hlt : k < L.length
    · obtain ⟨b, off, x, rfl, hbB, hx, hc0, hc1, hc2, hc3⟩ := (HS.out.later hB hb).at_ hlt
      have hst := fIdx_drop (hasP p) L k x hx
      obtain ⟨x0, x1, x2, x3⟩ := x
      dsimp only at hc0 hc1 hc2 hc3
      clear hx
      have HST := Lib.hid hst; clear hst
      go_wp2_with fail
      refine (boxT_any wr g x0 x1 x2 x3 p (by omega) HPR.out).mono ?_
      rintro e w2 ⟨rfl, hb2⟩
      have hst := HST.out
      generalize hasP p ⟨x0, x1, x2, x3⟩ = q at *
      cases q
      · rw [if_neg (by simp)] at hst
        have HST2 := Lib.hid hst; clear hst HST
        go_wp2
        go_roundw
        case rel => exact ⟨k + 1, by omega, by go_num, by rw [HN.out, HST2.out], bthen hb hb2⟩
        case measure => simp [intOf]; omega
      · rw [if_pos rfl] at hst
        have HST2 := Lib.hid hst; clear hst HST
        go_wp2
        go_ret
        exact ⟨ret_int (by rw [HN.out, HST2.out]), bthen hb hb2⟩
    · go_wp2
      go_ret
      have hkl : k = L.length := by omega
      subst hkl
      exact ⟨ret_int (by rw [HN.out, List.drop_length]; rfl), hb⟩

set_option maxRecDepth 100000 in
set_option maxHeartbeats 1000000 in
theorem boxI_any (w : World) (B : Nat) (A A' : Option Addr) (n n' : Nat) (z p : Int) (f : Nat) (L : List Bx) (lb : L.length ≤ maxLen) (hB : B ≤ w.heap.size) (hS : XL w B A' L) :
    Calls Tryz.prog 126 #[.agg #[.int .i64 z, .slice A f n, .slice A' L.length n'], .int .i64 p] w fun e w' => e = .returned (.int .i64 (fIdx (hasP p) L 0)) ∧ Below w.heap.size w w' := by
  have HS := Lib.hid hS; clear hS
  go_enter Tryz.func126, Tryz.ntmps126
  go_wp2_with fail
  generalize hW0 : (w.alloc (.cells #[.int .i64 z, .slice A f n, .slice A' L.length n'] 123)).alloc (.cells #[.int .i64 p] 3) = w0
  have b0 : Below w.heap.size w w0 := by rw [← hW0]; exact bthen (balloc _ _) (balloc _ _)
  have k1 : Has w0 (w.heap.size + 1) 3 #[.int .i64 p] := by rw [← hW0]; have := has_new (w.alloc (.cells #[.int .i64 z, .slice A f n, .slice A' L.length n'] 123)) 3 #[.int .i64 p]; simpa using this
  clear hW0
  refine (boxJ_any w0 B (w.heap.size + 1) A' n' p L lb (by have := b0.size; omega) (HS.out.later hB b0) (has_lt k1) (has_cell k1 0 rfl)).mono ?_
  rintro e w1 ⟨rfl, hb1⟩
  go_wp2_with fail
  go_ret
  exact ⟨rfl, bthen b0 hb1⟩
end Go.Proofs.YtjpkpfmpjgeeiaaGreat
