/- Chapter 2: banks: what a slice of columns reads as; the laws' helpers over banks. -/
import Derived.Test.YtegomldlkbgemaaQ04
namespace Go.Proofs.Ytegomldlkbgemaa
open Go.RowKit
set_option linter.unusedVariables false

def cont (x : Cl) : Int × List Int × List Bx := (x.z, x.F, x.L)
theorem KL.more {w : World} {B B' : Nat} {A : Option Addr} {l : List Cl} (h : KL w B A l) (hB : B ≤ B') : KL w B' A l := by
  rcases h with h | ⟨b, off, rfl, hlt, hc⟩
  · exact .inl h
  · exact .inr ⟨b, off, rfl, by omega, hc⟩
/-- the columns are small enough for the laws -/
def SmallK (l : List Cl) : Prop := ∀ x ∈ l, x.F.length ≤ 1048576 ∧ x.L.length ≤ 1048576
theorem smallK_succ {l : List Cl} {k : Nat} {x : Cl} (hx : l[k]? = some x) (h : SmallK (l.take k)) (hs : x.F.length ≤ 1048576 ∧ x.L.length ≤ 1048576) : SmallK (l.take (k + 1)) := fun y hy => by
  rw [List.take_add_one, hx] at hy
  rcases List.mem_append.1 hy with h1 | h1
  · exact h y h1
  · simp at h1; subst h1; exact hs
def SizedK (l : List Cl) (r : Int) : Prop := r = -1 ∨ (0 ≤ r ∧ l.length ≤ 1048576 ∧ SmallK l)

set_option maxRecDepth 100000 in
set_option maxHeartbeats 1000000 in
theorem szColumnS_any (w : World) (B : Nat) (A : Option Addr) (c : Nat) (l : List Cl) (hl : l.length ≤ maxLen) (hB : B ≤ w.heap.size) (hS : KL w B A l) (hV : ∀ x ∈ l, CV w B x) :
    Calls Try.prog 36 #[.slice A l.length c, .int .i64 1048576] w fun e w' => ∃ r, e = .returned (.int .i64 r) ∧ SizedK l r ∧ Below w.heap.size w w' := by
  unfold maxLen at hl
  have HS := Lib.hid hS; have HV := Lib.hid hV; clear hS hV
  by_cases hbig : (1048576 : Int) < l.length
  · go_enter Try.func36, Try.ntmps36
    go_wp2
    go_ret
    exact ⟨-1, rfl, .inl rfl, Below.refl _ _⟩
  · have hl2 : l.length ≤ 1048576 := by omega
    go_enter Try.func36, Try.ntmps36
    go_wp2
    go_loopw [1, 5] (fun lv i wr => ∃ (k : Nat) (r : Int), k ≤ l.length ∧ i = .int .i64 k ∧ lv = .int .i64 r ∧ 0 ≤ r ∧ r ≤ 1048576 ∧ SmallK (l.take k) ∧ Below w.heap.size w wr) (fun _ i _ => l.length - (intOf i).toNat)
    case atStart => exact ⟨0, _, Nat.zero_le _, rfl, rfl, by omega, by omega, fun x hx => by simp at hx, Below.refl _ _⟩
    case round =>
      obtain ⟨k, r, hk, rfl, rfl, hr0, hr1, hsm, hb⟩ := hrel
      have HSM := Lib.hid hsm; clear hsm
      have hsz := hb.size
      by_cases hlt : k < l.length
      · obtain ⟨b, off, x, rfl, hbB, hx, hc0, hc1, hc2⟩ := (HS.out.later hB hb).at_ hlt
        have hv := HV.out x (List.mem_of_getElem? hx)
        have HX := Lib.hid hx; clear hx
        by_cases hbd : r < x.F.length + x.L.length
        · have hs : szC r x.F.length x.L.length = -1 := if_pos (by omega)
          have Hs := Lib.hid hs; clear hs
          go_wp2_with fail
          refine (szColumn_any wr x.AF x.AB x.F.length x.cF x.L.length x.cB x.z r hv.lf hv.lb hr0 hr1).mono ?_
          rintro e w1 ⟨rfl, hb1⟩
          rw [Hs.out]
          go_wp2
          go_ret
          exact ⟨-1, rfl, .inl rfl, bthen hb hb1⟩
        · have hs : szC r x.F.length x.L.length = r - x.F.length - x.L.length := if_neg (by omega)
          have Hs := Lib.hid hs; clear hs
          have hsx : x.F.length ≤ 1048576 ∧ x.L.length ≤ 1048576 := by omega
          have HSX := Lib.hid hsx; clear hsx
          go_wp2_with fail
          refine (szColumn_any wr x.AF x.AB x.F.length x.cF x.L.length x.cB x.z r hv.lf hv.lb hr0 hr1).mono ?_
          rintro e w1 ⟨rfl, hb1⟩
          rw [Hs.out]
          go_wp2
          go_roundw
          case rel => exact ⟨k + 1, _, by omega, by go_num, rfl, by omega, by omega, smallK_succ HX.out HSM.out HSX.out, bthen hb hb1⟩
          case measure => simp [intOf]; omega
      · go_wp2
        go_ret
        have hkl : k = l.length := by omega
        subst hkl
        have := HSM.out
        rw [List.take_length] at this
        exact ⟨r, rfl, .inr ⟨hr0, hl2, this⟩, hb⟩

theorem colInfo : (Try.prog.info? 114).map (fun i => (i.zero, i.size, i.bytes)) = some (some (.agg #[.int .i64 0, .slice none 0 0, .slice none 0 0]), 3, 56) := by kernel_rfl
/-- the rows of a column lie in blocks of their own, at or behind base -/
def RowsK (w : World) (base : Nat) (x : Cl) : Prop := OR w base 3 x.AF (intV x.F) ∧ OR w base 130 x.AB (boxV x.L)
theorem RowsK.below {w w' : World} {base : Nat} {x : Cl} (h : RowsK w base x) (hb : Below w.heap.size w w') : RowsK w' base x := ⟨h.1.below hb, h.2.below hb⟩
theorem RowsK.more {w : World} {base B : Nat} {x : Cl} (h : RowsK w base x) (hB : B ≤ base) : RowsK w B x := ⟨h.1.more hB, h.2.more hB⟩
theorem RowsK.setlow {w : World} {base : Nat} {x : Cl} (h : RowsK w base x) {p : Addr} (hp : p.block < base) (v : Value) : RowsK (w.setCell p v) base x := ⟨h.1.setlow hp v, h.2.setlow hp v⟩
theorem RowsK.cv {w : World} {base : Nat} {x : Cl} (h : RowsK w base x) (hf : x.F.length ≤ maxLen) (hl : x.L.length ≤ maxLen) : CV w w.heap.size x := ⟨h.1.il, h.2.xl, hf, hl⟩
/-- block g holds the first k of n columns -/
structure CopiedK (w : World) (g : Nat) (cs : Array Value) (l' : List Cl) (n : Nat) : Prop where
  heap : Has w g 114 cs
  size : n * 3 ≤ cs.size
  got : ∀ j x, l'[j]? = some x → cs[j * 3]? = some (.int .i64 x.z) ∧ cs[j * 3 + 1]? = some (.slice x.AF x.F.length x.cF) ∧ cs[j * 3 + 2]? = some (.slice x.AB x.L.length x.cB)
theorem CopiedK.cellAt {w : World} {g : Nat} {cs : Array Value} {l' : List Cl} {n j : Nat} (h : CopiedK w g cs l' n) (hj : j < n * 3) : ∃ u, w.cell? ⟨g, j, none⟩ = some u :=
  ⟨cs[j]'(Nat.lt_of_lt_of_le hj h.size), has_cell h.heap j (Array.getElem?_eq_getElem _)⟩
theorem CopiedK.kl {w : World} {g : Nat} {cs : Array Value} {l' : List Cl} {n : Nat} (h : CopiedK w g cs l' n) : KL w w.heap.size (some ⟨g, 0, none⟩) l' :=
  .inr ⟨g, 0, rfl, has_lt h.heap, fun k x hx => by
    have := h.got k x hx
    rw [Nat.zero_add]
    exact ⟨has_cell h.heap _ this.1, has_cell h.heap _ this.2.1, has_cell h.heap _ this.2.2⟩⟩
theorem CopiedK.step {w : World} {g : Nat} {cs : Array Value} {l' : List Cl} {n : Nat} (h : CopiedK w g cs l' n) (hk : l'.length < n) (x : Cl) :
    CopiedK (((w.setCell ⟨g, l'.length * 3, none⟩ (.int .i64 x.z)).setCell ⟨g, l'.length * 3 + 1, none⟩ (.slice x.AF x.F.length x.cF)).setCell ⟨g, l'.length * 3 + 2, none⟩ (.slice x.AB x.L.length x.cB)) g (((cs.setIfInBounds (l'.length * 3) (.int .i64 x.z)).setIfInBounds (l'.length * 3 + 1) (.slice x.AF x.F.length x.cF)).setIfInBounds (l'.length * 3 + 2) (.slice x.AB x.L.length x.cB)) (l' ++ [x]) n := by
  have hsz := h.size
  refine ⟨has_set (has_set (has_set h.heap _ _) _ _) _ _, by simpa using h.size, fun j y hy => ?_⟩
  simp only [Array.getElem?_setIfInBounds, Array.size_setIfInBounds]
  rcases Nat.lt_or_ge j l'.length with hj | hj
  · rw [List.getElem?_append_left hj] at hy
    have := h.got j y hy
    exact ⟨by rw [if_neg (by omega), if_neg (by omega), if_neg (by omega)]; exact this.1, by rw [if_neg (by omega), if_neg (by omega), if_neg (by omega)]; exact this.2.1, by rw [if_neg (by omega), if_neg (by omega), if_neg (by omega)]; exact this.2.2⟩
  · rw [List.getElem?_append_right hj] at hy
    have hjl : j = l'.length := by
      have := (List.getElem?_eq_some_iff.1 hy).1
      simp at this; omega
    subst hjl
    simp at hy
    subst hy
    exact ⟨by rw [if_neg (by omega), if_neg (by omega), if_pos rfl, if_pos (by omega)], by rw [if_neg (by omega), if_pos rfl, if_pos (by omega)], by rw [if_pos rfl, if_pos (by omega)]⟩
theorem cont_snoc {l l' : List Cl} {k : Nat} {x y : Cl} (h : l'.map cont = (l.take k).map cont) (hx : l[k]? = some x) (hy : cont y = cont x) : (l' ++ [y]).map cont = (l.take (k + 1)).map cont := by
  rw [List.take_add_one, hx]
  simp [h, hy]

set_option maxRecDepth 100000 in
set_option maxHeartbeats 2000000 in
theorem toColumnS_any (w : World) (B : Nat) (A : Option Addr) (c : Nat) (l : List Cl) (hl : l.length ≤ 1048576) (hsm : SmallK l) (hB : B ≤ w.heap.size) (hS : KL w B A l) (hV : ∀ x ∈ l, CV w B x) :
    Calls Try.prog 38 #[.slice A l.length c] w fun e w' => ∃ (l' : List Cl) (cs : Array Value), e = .returned (.slice (some ⟨w.heap.size, 0, none⟩) l.length l.length) ∧ l'.length = l.length ∧ l'.map cont = l.map cont ∧ CopiedK w' w.heap.size cs l' l.length ∧ (∀ x ∈ l', RowsK w' (w.heap.size + 1) x) ∧ Below w.heap.size w w' := by
  have hmk : ∀ W : World, (Instr.makeSlice 70 (.int .i64 (l.length : Int)) (.int .i64 (l.length : Int))).run Try.prog W = .ok (.slice (some ⟨W.heap.size, 0, none⟩) l.length l.length) (W.alloc (.cells (madeCells #[.int .i64 0, .slice none 0 0, .slice none 0 0] (l.length * 3)) 114)) := by
    intro W
    obtain ⟨i, hi, hz0, hz1, hz2⟩ := info_parts colInfo
    have := run_make (P := Try.prog) W 70 114 i _ Try.underlying70 hi hz0 .i64 .i64 (l.length : Int) (l.length : Int) (by omega) (by omega) (by rw [hz2]; omega) (by omega)
    simpa [hz1, Value.cells] using this
  have HS := Lib.hid hS; have HV := Lib.hid hV; have HSM := Lib.hid hsm; clear hS hV hsm
  go_enter Try.func38, Try.ntmps38
  go_wp2
  go_loopw [4] (fun i wr => ∃ (k : Nat) (cs : Array Value) (l' : List Cl), k ≤ l.length ∧ i = .int .i64 k ∧ l'.length = k ∧ l'.map cont = (l.take k).map cont ∧ CopiedK wr w.heap.size cs l' l.length ∧ (∀ x ∈ l', RowsK wr (w.heap.size + 1) x) ∧ Below w.heap.size w wr) (fun i _ => l.length - (intOf i).toNat)
  case atStart => exact ⟨0, _, [], Nat.zero_le _, rfl, rfl, rfl, ⟨has_new _ _ _, by simp [size_madeCells], fun j x hj => by simp at hj⟩, fun x hx => by simp at hx, balloc _ _⟩
  case round =>
    obtain ⟨k, cs, l', hk, rfl, hlk, hct, hcp, hro, hb⟩ := hrel
    have HC := Lib.hid hcp; have HCT := Lib.hid hct; have HRO := Lib.hid hro; clear hcp hct hro
    clear hmk
    have hsz := hb.size
    by_cases hlt : k < l.length
    · obtain ⟨b, off, x, rfl, hbB, hx, hc0, hc1, hc2⟩ := (HS.out.later hB hb).at_ hlt
      have hv := (HV.out x (List.mem_of_getElem? hx)).later hB hb
      have hs := HSM.out x (List.mem_of_getElem? hx)
      obtain ⟨z, AF, F, cF, AB, L, cB⟩ := x
      dsimp only at hc0 hc1 hc2 hs
      have HX := Lib.hid hx; have HVX := Lib.hid hv; have HSX := Lib.hid hs; clear hx hv hs
      have HLK := Lib.hid hlk; clear hlk
      go_wp2_with fail
      refine (toColumn_any wr B AF AB cF cB z F L HSX.out.1 HSX.out.2 (by omega) HVX.out.f HVX.out.b).mono ?_
      rintro e w1 ⟨A2, A3, n2, n3, rfl, ho2, ho3, hb1⟩
      have hz1 := hb1.size
      have hC1 : CopiedK w1 w.heap.size cs l' l.length := ⟨has_call HC.out.heap hb1, HC.out.size, HC.out.got⟩
      have hgl : w.heap.size < wr.heap.size := has_lt HC.out.heap
      have hst := hC1.step (by rw [HLK.out]; exact hlt) ⟨z, A2, F, n2, A3, L, n3⟩
      rw [HLK.out] at hst
      dsimp only at hst
      have hro1 : ∀ x ∈ l' ++ [(⟨z, A2, F, n2, A3, L, n3⟩ : Cl)], RowsK (((w1.setCell ⟨w.heap.size, k * 3, none⟩ (.int .i64 z)).setCell ⟨w.heap.size, k * 3 + 1, none⟩ (.slice A2 F.length n2)).setCell ⟨w.heap.size, k * 3 + 2, none⟩ (.slice A3 L.length n3)) (w.heap.size + 1) x := fun y hy => by
        have h1 : RowsK w1 (w.heap.size + 1) y := by
          rcases List.mem_append.1 hy with hy | hy
          · exact (HRO.out y hy).below hb1
          · simp at hy; subst hy
            exact RowsK.more (base := wr.heap.size) ⟨ho2, ho3⟩ (by omega)
        exact ((h1.setlow (by show w.heap.size < _; omega) _).setlow (by show w.heap.size < _; omega) _).setlow (by show w.heap.size < _; omega) _
      obtain ⟨u0, hu0⟩ := hC1.cellAt (j := k * 3) (by omega)
      obtain ⟨u1, hu1⟩ := hC1.cellAt (j := k * 3 + 1) (by omega)
      obtain ⟨u2, hu2⟩ := hC1.cellAt (j := k * 3 + 2) (by omega)
      have hf0 := has_free hC1.heap (k * 3)
      have hf1 := has_free hC1.heap (k * 3 + 1)
      have hf2 := has_free hC1.heap (k * 3 + 2)
      have HST := Lib.hid hst; have HR1 := Lib.hid hro1; clear hst hro1 hC1 ho2 ho3
      go_wp2
      go_roundw
      case rel => exact ⟨k + 1, _, l' ++ [⟨z, A2, F, n2, A3, L, n3⟩], by omega, by go_num, by simp [HLK.out], cont_snoc HCT.out HX.out rfl, HST.out, HR1.out, (((hb.trans (hb1.mono hsz)).setCell (Nat.le_refl _) _).setCell (Nat.le_refl _) _).setCell (Nat.le_refl _) _⟩
      case measure => simp [intOf]; omega
    · go_wp2
      go_ret
      have hkl : k = l.length := by omega
      subst hkl
      have hct := HCT.out
      rw [List.take_length] at hct
      exact ⟨l', cs, rfl, hlk, hct, HC.out, HRO.out, hb⟩

set_option maxRecDepth 100000 in
set_option maxHeartbeats 2000000 in
theorem eqColumnS_any (w : World) (B B' : Nat) (A A' : Option Addr) (c c' n : Nat) (l l' : List Cl) (hl : l.length ≤ maxLen) (hn : n = l.length) (hc : l'.map cont = l.map cont) (hB : B ≤ w.heap.size) (hB' : B' ≤ w.heap.size) (hS : KL w B A l) (hV : ∀ x ∈ l, CV w B x) (hS' : KL w B' A' l') (hV' : ∀ x ∈ l', CV w B' x) :
    Calls Try.prog 42 #[.slice A n c, .slice A' n c'] w fun e w' => e = .returned (.bool true) ∧ Below w.heap.size w w' := by
  unfold maxLen at hl
  subst hn
  have hll : l'.length = l.length := by have := congrArg List.length hc; simpa using this
  have HS := Lib.hid hS; have HV := Lib.hid hV; have HS' := Lib.hid hS'; have HV' := Lib.hid hV'; have HC := Lib.hid hc; have HLL := Lib.hid hll; clear hS hV hS' hV' hc hll
  have e0 : ((l.length : Int) != (l.length : Int)) = false := by simp
  go_enter Try.func42, Try.ntmps42
  go_wp2
  clear e0
  go_loopw [5] (fun i wr => ∃ k : Nat, k ≤ l.length ∧ i = .int .i64 k ∧ Below w.heap.size w wr) (fun i _ => l.length - (intOf i).toNat)
  case atStart => exact ⟨0, Nat.zero_le _, rfl, Below.refl _ _⟩
  case round =>
    obtain ⟨k, hk, rfl, hb⟩ := hrel
    by_cases hlt : k < l.length
    · have hsz := hb.size
      obtain ⟨b, off, x, rfl, hbB, hx, hc0, hc1, hc2⟩ := (HS.out.below (hb.mono hB)).at_ hlt
      obtain ⟨b', off', y, rfl, hbB', hy, hd0, hd1, hd2⟩ := (HS'.out.below (hb.mono hB')).at_ (k := k) (by rw [HLL.out]; exact hlt)
      have hv := (HV.out x (List.mem_of_getElem? hx)).later hB hb
      have hv' := (HV'.out y (List.mem_of_getElem? hy)).later hB' hb
      have hxy : cont y = cont x := by
        have h1 : (l'.map cont)[k]? = some (cont y) := by rw [List.getElem?_map, hy]; rfl
        have h2 : (l.map cont)[k]? = some (cont x) := by rw [List.getElem?_map, hx]; rfl
        rw [HC.out, h2] at h1; injection h1 with h1; exact h1.symm
      obtain ⟨z, AF, F, cF, AB, L, cB⟩ := x
      obtain ⟨z', AF', F', cF', AB', L', cB'⟩ := y
      simp only [cont, Prod.mk.injEq] at hxy
      obtain ⟨rfl, rfl, rfl⟩ := hxy
      dsimp only at hc0 hc1 hc2 hd0 hd1 hd2
      have HVX := Lib.hid hv; have HVY := Lib.hid hv'; clear hx hy hv hv'
      have hbw : b < wr.heap.size := by omega
      have hbw' : b' < wr.heap.size := by omega
      go_wp2
      go_still_tail 8, (by kernel_rfl)
      change wpList _ _ _ _ _ wr.drew
      go_wp2_with (go_at_call 50; refine (eqColumn_any _ B B' AF AB AF' AB' cF cB cF' cB' z' F' L' HVX.out.lf HVX.out.lb (by simp; omega) (by simp; omega) (HVX.out.f.below (Below.refl _ _).drew) (HVX.out.b.below (Below.refl _ _).drew) (HVY.out.f.below (Below.refl _ _).drew) (HVY.out.b.below (Below.refl _ _).drew)).mono ?_; rintro e w1 ⟨rfl, hb1⟩)
      go_roundw
      case rel => exact ⟨k + 1, by omega, by go_num, (hb.drew).trans (hb1.mono hsz)⟩
      case measure => simp [intOf]; omega
    · go_wp2
      go_ret
      exact ⟨rfl, hb⟩
end Go.Proofs.Ytegomldlkbgemaa
namespace Go.Proofs.Ytegomldlkbgemaa
open Go.RowKit
set_option linter.unusedVariables false

/-- the first index at which the test holds -/
def fIdx (p : Bx → Bool) : List Bx → Nat → Int
  | [], _ => -1
  | a :: r, k => if p a = true then k else fIdx p r (k + 1)
theorem fIdx_drop (p : Bx → Bool) (l : List Bx) (k : Nat) (a : Bx) (hk : l[k]? = some a) : fIdx p (l.drop k) k = if p a = true then (k : Int) else fIdx p (l.drop (k + 1)) (k + 1) := by
  have hlt : k < l.length := (List.getElem?_eq_some_iff.1 hk).1
  rw [List.drop_eq_getElem_cons hlt]
  have : l[k] = a := by rw [List.getElem?_eq_getElem hlt] at hk; injection hk
  rw [this]; rfl
theorem fIdx_cases (p : Bx → Bool) : ∀ (l : List Bx) (k : Nat), (fIdx p l k = -1 ∧ ∀ x ∈ l, p x = false) ∨ ∃ (j : Nat) (x : Bx), fIdx p l k = ((k + j : Nat) : Int) ∧ l[j]? = some x ∧ p x = true
  | [], k => .inl ⟨rfl, fun x hx => by cases hx⟩
  | a :: r, k => by
    unfold fIdx
    by_cases h : p a = true
    · rw [if_pos h]; exact .inr ⟨0, a, rfl, rfl, h⟩
    · rw [if_neg h]
      rcases fIdx_cases p r (k + 1) with ⟨h1, h2⟩ | ⟨j, x, h1, h2, h3⟩
      · refine .inl ⟨h1, fun x hx => ?_⟩
        rcases List.mem_cons.1 hx with e | e
        · rw [e]; simpa using h
        · exact h2 x e
      · exact .inr ⟨j + 1, x, by rw [h1]; push_cast; omega, by simpa using h2, h3⟩
theorem fIdx_congr {p q : Bx → Bool} : ∀ (l : List Bx) (k : Nat), (∀ x ∈ l, p x = q x) → fIdx p l k = fIdx q l k
  | [], _, _ => rfl
  | a :: r, k, h => by
    unfold fIdx
    rw [h a List.mem_cons_self, fIdx_congr r (k + 1) fun x hx => h x (List.mem_cons_of_mem _ hx)]
theorem fIdx_lt {p : Bx → Bool} {l : List Bx} (h : 0 ≤ fIdx p l 0) : ∃ (j : Nat) (x : Bx), fIdx p l 0 = (j : Int) ∧ l[j]? = some x ∧ p x = true := by
  rcases fIdx_cases p l 0 with ⟨h1, _⟩ | ⟨j, x, h1, h2, h3⟩
  · omega
  · exact ⟨j, x, by rw [h1]; simp, h2, h3⟩
def hasP (c : Int) (x : Bx) : Bool := x.par == c
def hasP0 (c : Int) (x : Bx) : Bool := x.par == c && decide (0 < c)

end Go.Proofs.Ytegomldlkbgemaa
namespace Go.Proofs.Ytegomldlkbgemaa
open Go.RowKit
set_option linter.unusedVariables false

def BankP (l : List Cl) : Prop := (1 ≤ l.length ∧ l.length ≤ 6) ∧ (∀ x ∈ l, ColOk x.z x.F x.L) ∧ Dis (allPars l)
def conP (t : Int × List Int × List Bx) : Prop := ColOk t.1 t.2.1 t.2.2
theorem allPars_cont (l : List Cl) : allPars l = (l.map cont).flatMap (fun t => t.2.2.map Bx.par) := by
  unfold allPars parsOf cont; rw [List.flatMap_map]
theorem bankP_cont {l l' : List Cl} (h : l'.map cont = l.map cont) : BankP l' ↔ BankP l := by
  have hl : l'.length = l.length := by have := congrArg List.length h; simpa using this
  have hc : ∀ m : List Cl, (∀ x ∈ m, ColOk x.z x.F x.L) ↔ ∀ t ∈ m.map cont, conP t := fun m => by simp [conP, cont]
  unfold BankP
  rw [allPars_cont, allPars_cont, h, hl, hc, hc, h]
theorem small_cont {l l' : List Cl} (h : l'.map cont = l.map cont) (hs : SmallK l) : SmallK l' := fun x hx => by
  have hm : cont x ∈ l.map cont := by rw [← h]; exact List.mem_map.2 ⟨x, hx, rfl⟩
  obtain ⟨y, hy, he⟩ := List.mem_map.1 hm
  have := hs y hy
  simp only [cont, Prod.mk.injEq] at he
  rw [← he.2.1, ← he.2.2]; exact this
theorem mem_allPars {l : List Cl} {k : Nat} {x : Cl} {p : Int} (hx : l[k]? = some x) (hp : p ∈ parsOf x) {n : Nat} (hk : k < n) : p ∈ allPars (l.take n) := by
  unfold allPars
  rw [List.mem_flatMap]
  exact ⟨x, List.mem_of_getElem? (i := k) (by rw [List.getElem?_take, if_pos hk]; exact hx), hp⟩
theorem dis_clash {l : List Cl} {j k : Nat} {x y : Cl} {p : Int} (hx : l[k]? = some x) (hy : l[j]? = some y) (hj : j < k) (h0 : 0 < p) (h1 : p ∈ parsOf x) (h2 : p ∈ parsOf y) : ¬ Dis (allPars l) := fun h => by
  have h3 := dis_part hx h x.L.length
  rw [List.take_length] at h3
  unfold Dis at h3
  rw [List.pairwise_append] at h3
  exact h3.2.2 p (mem_allPars hy h2 hj) p h1 h0 rfl
theorem dis_join {l : List Cl} {k : Nat} {x : Cl} (hx : l[k]? = some x) (h1 : Dis (allPars (l.take k))) (h2 : Dis (parsOf x)) (h3 : ∀ p ∈ parsOf x, 0 < p → p ∉ allPars (l.take k)) : Dis (allPars (l.take (k + 1))) := by
  rw [allPars_succ hx]
  unfold Dis at *
  rw [List.pairwise_append]
  exact ⟨h1, h2, fun a ha b hb h0 e => h3 b hb h0 (e ▸ ha)⟩
theorem ok_succ {l : List Cl} {k : Nat} {x : Cl} (hx : l[k]? = some x) (h : ∀ y ∈ l.take k, ColOk y.z y.F y.L) (hk : ColOk x.z x.F x.L) : ∀ y ∈ l.take (k + 1), ColOk y.z y.F y.L := fun y hy => by
  rw [List.take_add_one, hx] at hy
  rcases List.mem_append.1 hy with h1 | h1
  · exact h y h1
  · simp at h1; subst h1; exact hk

end Go.Proofs.Ytegomldlkbgemaa
namespace Go.Proofs.Ytegomldlkbgemaa
open Go.RowKit
set_option linter.unusedVariables false

theorem rows_cv {w : World} {base : Nat} {l l' : List Cl} (hc : l'.map cont = l.map cont) (hs : SmallK l) (h : ∀ x ∈ l', RowsK w base x) : ∀ x ∈ l', CV w w.heap.size x := fun x hx => by
  have := small_cont hc hs x hx
  exact (h x hx).cv (by unfold maxLen; omega) (by unfold maxLen; omega)

end Go.Proofs.Ytegomldlkbgemaa
