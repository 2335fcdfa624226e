/- Chapter 2: contract of the program's boxesOk. -/
import Derived.Test.YtegomldlkbgemaaQ03
import Derived.Deep.RegionHeld3
import Derived.Test.YtegomldlkbgemaaQ02
import Derived.Test.YtegomldlkbgemaaQ01
import Derived.Deep.DeepMust
namespace Go.Proofs.Ytegomldlkbgemaa
open Go.RowKit
set_option linter.unusedVariables false

/-- what boxesOk asks for -/
def BoxesW (h : Int) (F : List Int) (L : List Bx) : Prop := BoxesTo L L.length ∧ lowAt L L.length = h ∧ wallsTo F L L.length = F.length
theorem boxesW_no {h : Int} {F : List Int} {L : List Bx} {k : Nat} {x : Bx} (hx : L[k]? = some x) (hbad : x.low ≠ lowAt L k ∨ x.size < 1 ∨ h - lowAt L k < x.size ∨ x.par < 0 ∨ 999 < x.par) : ¬ BoxesW h F L := by
  rintro ⟨h1, h2, h3⟩
  have hk : k < L.length := (List.getElem?_eq_some_iff.1 hx).1
  have hb := h1 k x hk hx
  have hs := size_le h1 h2 hx
  have hn := lowAt_succ hx
  unfold BoxAt at hb
  rcases hbad with hh | hh | hh | hh | hh
  · exact hh hb.1
  all_goals omega
theorem walls_le (F : List Int) (L : List Bx) (k : Nat) : wallsTo F L k ≤ k := by
  unfold wallsTo cntIn
  have := List.countP_le_length (p := fun x => F.contains x) (l := (L.take k).map Bx.low)
  simp at this
  simp; omega

end Go.Proofs.Ytegomldlkbgemaa
namespace Go.Proofs.Ytegomldlkbgemaa
open Go.RowKit
set_option linter.unusedVariables false

/-- a column as a value: its height, its slices and what they read as -/
structure Cl where
  z : Int
  AF : Option Addr
  F : List Int
  cF : Nat
  AB : Option Addr
  L : List Bx
  cB : Nat
def Cl.val (x : Cl) : Value := .agg #[.int .i64 x.z, .slice x.AF x.F.length x.cF, .slice x.AB x.L.length x.cB]
/-- what its slices read as, below block B -/
structure CV (w : World) (B : Nat) (x : Cl) : Prop where
  f : IL w B x.AF x.F
  b : XL w B x.AB x.L
  lf : x.F.length ≤ maxLen
  lb : x.L.length ≤ maxLen
theorem CV.later {w w' : World} {B : Nat} {x : Cl} (h : CV w B x) (hB : B ≤ w.heap.size) (hb : Below w.heap.size w w') : CV w' B x := ⟨h.f.later hB hb, h.b.later hB hb, h.lf, h.lb⟩
theorem CV.more {w : World} {B B' : Nat} {x : Cl} (h : CV w B x) (hB : B ≤ B') : CV w B' x := ⟨h.f.more hB, h.b.more hB, h.lf, h.lb⟩
/-- a slice of columns reads as the list, below block B -/
def KL (w : World) (B : Nat) (A : Option Addr) (l : List Cl) : Prop :=
  l = [] ∨ ∃ b off, A = some ⟨b, off, none⟩ ∧ b < B ∧ ∀ k x, l[k]? = some x → w.cell? ⟨b, off + k * 3, none⟩ = some (.int .i64 x.z) ∧ w.cell? ⟨b, off + k * 3 + 1, none⟩ = some (.slice x.AF x.F.length x.cF) ∧ w.cell? ⟨b, off + k * 3 + 2, none⟩ = some (.slice x.AB x.L.length x.cB)
theorem KL.below {w w' : World} {B : Nat} {A : Option Addr} {l : List Cl} (h : KL w B A l) (hb : Below B w w') : KL w' B A l := by
  rcases h with h | ⟨b, off, rfl, hlt, hc⟩
  · exact .inl h
  · refine .inr ⟨b, off, rfl, hlt, fun k x hx => ?_⟩
    have := hc k x hx
    exact ⟨(hb.cell (p := ⟨b, off + k * 3, none⟩) hlt).trans this.1, (hb.cell (p := ⟨b, off + k * 3 + 1, none⟩) hlt).trans this.2.1, (hb.cell (p := ⟨b, off + k * 3 + 2, none⟩) hlt).trans this.2.2⟩
theorem KL.later {w w' : World} {B : Nat} {A : Option Addr} {l : List Cl} (h : KL w B A l) (hB : B ≤ w.heap.size) (hb : Below w.heap.size w w') : KL w' B A l := h.below (hb.mono hB)
theorem KL.at_ {w : World} {B : Nat} {A : Option Addr} {l : List Cl} (h : KL w B A l) {k : Nat} (hk : k < l.length) :
    ∃ b off x, A = some ⟨b, off, none⟩ ∧ b < B ∧ l[k]? = some x ∧ w.cell? ⟨b, off + k * 3, none⟩ = some (.int .i64 x.z) ∧ w.cell? ⟨b, off + k * 3 + 1, none⟩ = some (.slice x.AF x.F.length x.cF) ∧ w.cell? ⟨b, off + k * 3 + 2, none⟩ = some (.slice x.AB x.L.length x.cB) := by
  rcases h with h | ⟨b, off, rfl, hlt, hc⟩
  · subst h; simp at hk
  · exact ⟨b, off, _, rfl, hlt, List.getElem?_eq_getElem hk, hc k _ (List.getElem?_eq_getElem hk)⟩
def parsOf (x : Cl) : List Int := x.L.map Bx.par
def allPars (l : List Cl) : List Int := l.flatMap parsOf
theorem allPars_succ {l : List Cl} {k : Nat} {x : Cl} (h : l[k]? = some x) : allPars (l.take (k + 1)) = allPars (l.take k) ++ parsOf x := by
  unfold allPars; rw [List.take_add_one, h]; simp
/-- the cells tell which parcels above 0 are in the list -/
def Seen (cs : Array Value) (P : List Int) : Prop := cs.size = 1000 ∧ ∀ n : Nat, n < 1000 → cs[n]? = some (.bool (decide (0 < n) && P.contains (n : Int)))
theorem seen_snoc {cs : Array Value} {P : List Int} (h : Seen cs P) (n : Nat) (hn : n < 1000) : Seen (cs.setIfInBounds n (.bool (decide (0 < n)))) (P ++ [(n : Int)]) := by
  refine ⟨by simp [h.1], fun m hm => ?_⟩
  rw [Array.getElem?_setIfInBounds]
  by_cases e : n = m
  · subst e
    rw [if_pos rfl, if_pos (by rw [h.1]; exact hn)]
    by_cases h0 : 0 < n
    · simp [h0]
    · have : n = 0 := by omega
      subst this; simp
  · rw [if_neg e, h.2 m hm]
    have : ((m : Int) == (n : Int)) = false := by simp; omega
    have hne : ¬ ((m : Int) = (n : Int)) := by omega
    simp [hne]

theorem dis_part {l : List Cl} {k : Nat} {x : Cl} (hx : l[k]? = some x) (h : Dis (allPars l)) (j : Nat) : Dis (allPars (l.take k) ++ (x.L.take j).map Bx.par) := by
  have e : allPars l = (allPars (l.take k) ++ (x.L.take j).map Bx.par) ++ ((x.L.drop j).map Bx.par ++ allPars (l.drop (k + 1))) := by
    have h1 : l = l.take (k + 1) ++ l.drop (k + 1) := (List.take_append_drop _ _).symm
    have h2 : parsOf x = (x.L.take j).map Bx.par ++ (x.L.drop j).map Bx.par := by unfold parsOf; rw [← List.map_append, List.take_append_drop]
    have h3 : allPars l = allPars (l.take (k + 1)) ++ allPars (l.drop (k + 1)) := by
      unfold allPars; rw [← List.flatMap_append, List.take_append_drop]
    rw [h3, allPars_succ hx, h2]; simp only [List.append_assoc]
  rw [e] at h
  exact dis_init h
end Go.Proofs.Ytegomldlkbgemaa
namespace Go.Proofs.Ytegomldlkbgemaa
open Go.RowKit
set_option linter.unusedVariables false

theorem OR.setlow {w : World} {base : Nat} {e : TypeId} {A : Option Addr} {xs : List Value} (h : OR w base e A xs) {p : Addr} (hp : p.block < base) (v : Value) : OR (w.setCell p v) base e A xs :=
  h.kept fun g hg _ => Below.heap_setCell w p v g (by omega)

set_option maxHeartbeats 1000000 in
theorem toColumn_any (w : World) (B : Nat) (A A' : Option Addr) (n n' : Nat) (z : Int) (F : List Int) (L : List Bx) (lf : F.length ≤ 1048576) (ll : L.length ≤ 1048576) (hB : B ≤ w.heap.size) (hS : IL w B A F) (hS' : XL w B A' L) :
    Calls Try.prog 48 #[.agg #[.int .i64 z, .slice A F.length n, .slice A' L.length n']] w fun e w' => ∃ A2 A3 n2 n3, e = .returned (.agg #[.int .i64 z, .slice A2 F.length n2, .slice A3 L.length n3]) ∧ OR w' w.heap.size 3 A2 (intV F) ∧ OR w' w.heap.size 130 A3 (boxV L) ∧ Below w.heap.size w w' := by
  have HS := Lib.hid hS; clear hS
  have HS' := Lib.hid hS'; clear hS'
  have hb3 : ∀ o1 o2 o3, Below w.heap.size w (((w.alloc o1).alloc o2).alloc o3) := fun o1 o2 o3 => bthen (bthen (balloc w o1) (balloc _ o2)) (balloc _ o3)
  have H3 := Lib.hid hb3; clear hb3
  go_enter Try.func48, Try.ntmps48
  go_wp2_with fail
  generalize hW0 : (((w.alloc (.cells #[.int .i64 z, .slice A F.length n, .slice A' L.length n'] 110)).alloc (.cells #[.int .i64 0, .slice none 0 0, .slice none 0 0] 114)).alloc (.cells #[.int .i64 z, .slice none 0 0, .slice none 0 0] 114)) = w0
  have b0 : Below w.heap.size w w0 := by rw [← hW0]; exact H3.out _ _ _
  have k0 : Has w0 w.heap.size 110 #[.int .i64 z, .slice A F.length n, .slice A' L.length n'] := by rw [← hW0]; exact has_alloc (has_alloc (has_new _ _ _) _) _
  have k1 : Has w0 (w.heap.size + 1) 114 #[.int .i64 0, .slice none 0 0, .slice none 0 0] := by rw [← hW0]; have := has_alloc (has_new (w.alloc (.cells #[.int .i64 z, .slice A F.length n, .slice A' L.length n'] 110)) 114 #[.int .i64 0, .slice none 0 0, .slice none 0 0]) (.cells #[.int .i64 z, .slice none 0 0, .slice none 0 0] 114); simpa using this
  have k2 : Has w0 (w.heap.size + 1 + 1) 114 #[.int .i64 z, .slice none 0 0, .slice none 0 0] := by rw [← hW0]; have := has_new ((w.alloc (.cells #[.int .i64 z, .slice A F.length n, .slice A' L.length n'] 110)).alloc (.cells #[.int .i64 0, .slice none 0 0, .slice none 0 0] 114)) 114 #[.int .i64 z, .slice none 0 0, .slice none 0 0]; simpa using this
  clear hW0
  have hz0 := has_lt k2
  refine (toIntS_any w0 B A n F lf (by have := b0.size; omega) (HS.out.later hB b0)).mono ?_
  rintro e w1 ⟨A2, n2, rfl, hS1, hb1⟩
  have HS1 := Lib.hid hS1; clear hS1
  have m0 := has_call k0 hb1
  have m1 := has_call k1 hb1
  have m2 := has_call k2 hb1
  have hbx := bthen b0 hb1
  have hsz1 := hb1.size
  have e1 := has_cell m0 2 rfl
  have e2 := has_cell m2 1 rfl
  have f2 := has_free m2 1
  have M0 := Lib.hid m0; have M1 := Lib.hid m1; have M2 := Lib.hid m2; clear m0 m1 m2
  go_wp2_with fail
  clear e1 e2 f2
  generalize hW1 : (w1.setCell ⟨w.heap.size + 1 + 1, 1, none⟩ (.slice A2 F.length n2)) = w1'
  have bw : Below w.heap.size w w1' := by rw [← hW1]; exact hbx.setCell (by simp; omega) _
  have n1 : Has w1' (w.heap.size + 1) 114 #[.int .i64 0, .slice none 0 0, .slice none 0 0] := by rw [← hW1]; exact has_far M1.out (by simp) _
  have n2' : Has w1' (w.heap.size + 1 + 1) 114 #[.int .i64 z, .slice A2 F.length n2, .slice none 0 0] := by rw [← hW1]; have := has_set M2.out 1 (.slice A2 F.length n2); simpa using this
  have s1 : OR w1' w0.heap.size 3 A2 (intV F) := by
    rw [← hW1]
    exact HS1.out.setlow (by show w.heap.size + 1 + 1 < _; omega) _
  have S1 := Lib.hid s1; clear s1
  have hsz1' : w1'.heap.size = w1.heap.size := by rw [← hW1, size_set]
  clear hW1
  refine (toBoxS_any w1' B A' n' L ll (by omega) (HS'.out.later hB bw)).mono ?_
  rintro e w2 ⟨A3, n3, rfl, hS3, hb2⟩
  have HS3 := Lib.hid hS3; clear hS3
  have p1 := has_call n1 hb2
  have p2 := has_call n2' hb2
  have hsz2 := hb2.size
  have e1 := has_cell p2 0 rfl
  have e2 := has_cell p2 1 rfl
  have e5 := has_cell p2 2 rfl
  have e3 := has_cell p1 0 rfl
  have e4 := has_cell p1 1 rfl
  have e6 := has_cell p1 2 rfl
  have f1 := has_free p2 2
  have f3 := has_free p1 0
  have f4 := has_free p1 1
  have f5 := has_free p1 2
  have P1 := Lib.hid p1; have P2 := Lib.hid p2; clear p1 p2
  have HN1 := Lib.hid n1; have HN2 := Lib.hid n2'; clear n1 n2'
  have HB2 := Lib.hid hb2; clear hb2
  have HB1 := Lib.hid hb1; clear hb1
  have K0 := Lib.hid k0; have K1 := Lib.hid k1; have K2 := Lib.hid k2; clear k0 k1 k2
  have SZ := Lib.hid hsz1'; clear hsz1'
  go_wp2_with fail
  clear e1 e2 e3 e4 e5 e6 f1 f3 f4 f5
  have q1 : Has ((((w2.setCell ⟨w.heap.size + 1 + 1, 2, none⟩ (.slice A3 L.length n3)).setCell ⟨w.heap.size + 1, 0, none⟩ (.int .i64 z)).setCell ⟨w.heap.size + 1, 1, none⟩ (.slice A2 F.length n2)).setCell ⟨w.heap.size + 1, 2, none⟩ (.slice A3 L.length n3)) (w.heap.size + 1) 114 #[.int .i64 z, .slice A2 F.length n2, .slice A3 L.length n3] := by
    have := has_set (has_set (has_set (has_far P1.out (p := ⟨w.heap.size + 1 + 1, 2, none⟩) (by simp) (.slice A3 L.length n3)) 0 (.int .i64 z)) 1 (.slice A2 F.length n2)) 2 (.slice A3 L.length n3)
    simpa using this
  have g0 := has_cell q1 0 rfl
  have g1 := has_cell q1 1 rfl
  have g2 := has_cell q1 2 rfl
  refine bodyPost_ret (v := .agg #[.int .i64 z, .slice A2 F.length n2, .slice A3 L.length n3]) (by simp [results, Try.results48, go_sem, g0, g1, g2]) rfl ⟨A2, A3, n2, n3, rfl, ?_, ?_, ?_⟩
  · have sA : OR w2 w0.heap.size 3 A2 (intV F) := S1.out.below HB2.out
    exact ((((sA.setlow (by show w.heap.size + 1 + 1 < _; omega) _).setlow (by show w.heap.size + 1 < _; omega) _).setlow (by show w.heap.size + 1 < _; omega) _).setlow (by show w.heap.size + 1 < _; omega) _).more b0.size
  · have hs := SZ.out
    exact ((((HS3.out.setlow (by show w.heap.size + 1 + 1 < _; omega) _).setlow (by show w.heap.size + 1 < _; omega) _).setlow (by show w.heap.size + 1 < _; omega) _).setlow (by show w.heap.size + 1 < _; omega) _).more (by omega)
  · exact ((((bw.trans (HB2.out.mono bw.size)).setCell (by simp; omega) _).setCell (by simp) _).setCell (by simp) _).setCell (by simp) _

set_option maxHeartbeats 400000 in
theorem eqColumn_any (w : World) (B B' : Nat) (A A' A2 A2' : Option Addr) (n n' n2 n2' : Nat) (z : Int) (F : List Int) (L : List Bx) (lf : F.length ≤ maxLen) (ll : L.length ≤ maxLen) (hB : B ≤ w.heap.size) (hB' : B' ≤ w.heap.size) (hS : IL w B A F) (hS' : XL w B A' L) (hT : IL w B' A2 F) (hT' : XL w B' A2' L) :
    Calls Try.prog 50 #[.agg #[.int .i64 z, .slice A F.length n, .slice A' L.length n'], .agg #[.int .i64 z, .slice A2 F.length n2, .slice A2' L.length n2']] w fun e w' => e = .returned (.bool true) ∧ Below w.heap.size w w' := by
  have hb0 : ∀ o1 o2, Below w.heap.size w ((w.alloc o1).alloc o2) := fun o1 o2 => bthen (balloc w o1) (balloc _ o2)
  have HS := Lib.hid hS; clear hS
  have HS' := Lib.hid hS'; clear hS'
  have HT := Lib.hid hT; clear hT
  have HT' := Lib.hid hT'; clear hT'
  have H0 := Lib.hid hb0; clear hb0
  have e0 : (z != z) = false := by simp
  go_enter Try.func50, Try.ntmps50
  go_wp2_with fail
  clear e0
  refine (eqIntS_any _ B B' A A2 n n2 F lf (by simp; omega) (by simp; omega) (HS.out.later hB (H0.out _ _)) (HT.out.later hB' (H0.out _ _))).mono ?_
  rintro e w1 ⟨rfl, hb1⟩
  have hbx := bthen (H0.out _ _) hb1
  have hold := bold hb1
  go_wp2_with fail
  clear hold
  refine (eqBoxS_any _ B B' A' A2' n' n2' L ll (by have := hbx.size; omega) (by have := hbx.size; omega) (HS'.out.later hB hbx) (HT'.out.later hB' hbx)).mono ?_
  rintro e w2 ⟨rfl, hb2⟩
  go_wp2_with fail
  go_ret
  exact ⟨rfl, bthen hbx hb2⟩
end Go.Proofs.Ytegomldlkbgemaa
namespace Go.Proofs.Ytegomldlkbgemaa
open Go.RowKit
set_option linter.unusedVariables false

section
variable {w w' w2 : World} {lo hi a b B base g : Nat} {e e' t : TypeId} {A A' : Option Addr} {xs ys : List Value} {cs : Array Value}
theorem OI.xl {l : List Bx} (h : OI w lo hi e A (boxV l)) : XL w w.heap.size A l := h.or_.xl
end
theorem boxV_seq {l : List Bx} {k : Int} (h : boxV l = []) : boxV (seqB k l.length) = [] := by rw [boxV_nil h]; rfl

end Go.Proofs.Ytegomldlkbgemaa
namespace Go.Proofs.Ytegomldlkbgemaa
open Go.RowKit
set_option linter.unusedVariables false

theorem Cl.one {w : World} {B g : Nat} {x : Cl} (h : Has w g 114 #[.int .i64 x.z, .slice x.AF x.F.length x.cF, .slice x.AB x.L.length x.cB]) (hB : g < B) : KL w B (some ⟨g, 0, none⟩) [x] := by
  refine .inr ⟨g, 0, rfl, hB, fun k y hy => ?_⟩
  have hk : k = 0 := by have := (List.getElem?_eq_some_iff.1 hy).1; simp at this; omega
  subst hk
  simp at hy
  subst hy
  exact ⟨has_cell h 0 rfl, has_cell h 1 rfl, has_cell h 2 rfl⟩
theorem pars_bd {L : List Bx} (h : BoxesTo L L.length) : ∀ b ∈ L, 0 ≤ b.par ∧ b.par ≤ 999 := fun b hb => by
  obtain ⟨k, hk⟩ := List.getElem?_of_mem hb
  have := h k b (List.getElem?_eq_some_iff.1 hk).1 hk
  exact ⟨this.2.2.1, this.2.2.2⟩
theorem col_of {h : Int} {F : List Int} {L : List Bx} (h1 : FixOk h F) (h2 : BoxesW h F L) (h3 : Dis (L.map Bx.par)) : ColOk h F L :=
  ⟨h1, h2.1, h2.2.1, (walls_iff h1 h2.1).1 h2.2.2, h3⟩
theorem of_col {h : Int} {F : List Int} {L : List Bx} (g : ColOk h F L) : FixOk h F ∧ BoxesW h F L ∧ Dis (L.map Bx.par) :=
  ⟨g.fix, ⟨g.box, g.top, (walls_iff g.fix g.box).2 g.wall⟩, g.diff⟩

end Go.Proofs.Ytegomldlkbgemaa
namespace Go.Proofs.Ytegomldlkbgemaa
open Go.RowKit
set_option linter.unusedVariables false

theorem in_any (w : World) (x a b : Int) : Calls Try.prog 14 #[.int .i64 x, .int .i64 a, .int .i64 b] w fun e w' => e = .returned (.bool (inB x a b)) ∧ w' = w := by
  by_cases h0 : a ≤ x
  · by_cases h1 : x ≤ b
    · go_enter Try.func14, Try.ntmps14
      go_wp2
      go_ret
      exact ⟨ret_bool (by simp [inB, h0, h1]), rfl⟩
    · go_enter Try.func14, Try.ntmps14
      go_wp2
      go_ret
      exact ⟨ret_bool (by simp [inB]; omega), rfl⟩
  · go_enter Try.func14, Try.ntmps14
    go_wp2
    go_ret
    exact ⟨ret_bool (by simp [inB]; omega), rfl⟩

/-- what l02Boxes asks for -/
def BoxesP (h : Int) (L : List Bx) : Prop := BoxesTo L L.length ∧ lowAt L L.length = h ∧ Dis (L.map Bx.par)
theorem boxes_no_at {h : Int} {L : List Bx} {k : Nat} {x : Bx} (h24 : h ≤ 24) (hx : L[k]? = some x) (hbad : x.low ≠ lowAt L k ∨ inB x.size 1 24 = false ∨ inB x.par 0 999 = false) : ¬ BoxesP h L := by
  rintro ⟨h1, h2, h3⟩
  have hk : k < L.length := (List.getElem?_eq_some_iff.1 hx).1
  have hb := h1 k x hk hx
  have hs := size_le h1 h2 hx
  unfold BoxAt at hb
  rcases hbad with hh | hh | hh
  · exact hh hb.1
  · simp [inB] at hh; omega
  · simp [inB] at hh; omega
theorem boxes_no_sum {h : Int} {L : List Bx} {k : Nat} {x : Bx} (h24 : h ≤ 24) (hx : L[k]? = some x) (hbad : 24 < lowAt L (k + 1)) : ¬ BoxesP h L := by
  rintro ⟨h1, h2, h3⟩
  have hs := size_le h1 h2 hx
  omega
theorem boxes_no_dis {h : Int} {L : List Bx} {k j : Nat} {x y : Bx} (hx : L[k]? = some x) (hy : L[j]? = some y) (hj : j < k) (hp : 0 < x.par) (he : y.par = x.par) : ¬ BoxesP h L := by
  rintro ⟨h1, h2, h3⟩
  have h4 := dis_take h3 (k + 1)
  rw [pars_succ hx, dis_snoc] at h4
  refine h4.2 hp ?_
  rw [← he]
  exact List.mem_map.2 ⟨y, List.mem_of_getElem? (i := j) (by rw [List.getElem?_take, if_pos hj]; exact hy), rfl⟩
theorem dis_next {L : List Bx} {k : Nat} {x : Bx} (hx : L[k]? = some x) (hd : Dis ((L.take k).map Bx.par)) (hn : ∀ j y, j < k → L[j]? = some y → 0 < x.par → y.par ≠ x.par) : Dis ((L.take (k + 1)).map Bx.par) := by
  rw [pars_succ hx, dis_snoc]
  refine ⟨hd, fun hp hm => ?_⟩
  obtain ⟨y, hy, he⟩ := List.mem_map.1 hm
  obtain ⟨j, hj⟩ := List.getElem?_of_mem hy
  rw [List.getElem?_take] at hj
  split at hj
  · rename_i hjk; exact hn j y hjk hj hp he
  · cases hj

end Go.Proofs.Ytegomldlkbgemaa
namespace Go.Proofs.Ytegomldlkbgemaa
open Go.RowKit
set_option linter.unusedVariables false

def WallsTo (F : List Int) (L : List Bx) (n : Nat) : Prop := ∀ j x, j < n → F[j]? = some x → ∃ b ∈ L, b.low = x
theorem wallsT_succ {F : List Int} {L : List Bx} {n : Nat} {x : Int} (h : WallsTo F L n) (hx : F[n]? = some x) (hb : ∃ b ∈ L, b.low = x) : WallsTo F L (n + 1) := fun j y hj hy => by
  by_cases e : j = n
  · subst e; rw [hx] at hy; injection hy with hy; subst hy; exact hb
  · exact h j y (by omega) hy
theorem inFix_no {h : Int} {F : List Int} {L : List Bx} {k : Nat} {x : Int} (hx : F[k]? = some x) (hi : inB x 1 (h - 1) = false) : ¬ ColOk h F L := fun g => by
  have := g.fix.fix k x hx
  simp [inB] at hi; omega
theorem col_done {h : Int} {F : List Int} {L : List Bx} (h1 : 1 ≤ h) (h24 : h ≤ 24) (hb : BoxesP h L) (hf : FixTo h F F.length) (hw : WallsTo F L F.length) : ColOk h F L :=
  ⟨fix_done h1 h24 hf, hb.1, hb.2.1, fun x hx => by
    obtain ⟨j, hj⟩ := List.getElem?_of_mem hx
    exact hw j x (List.getElem?_eq_some_iff.1 hj).1 hj, hb.2.2⟩

theorem prevI_nonneg {z : Int} {F : List Int} {k : Nat} (h : FixTo z F k) (hk : k ≤ F.length) : 0 ≤ prevI F k := by
  rcases k with _ | m
  · simp [prevI]
  · have hm : F[m]? = some F[m] := List.getElem?_eq_getElem (by omega)
    rw [prev_next hm]
    have := (h.fix m _ (by omega) hm).1
    omega
end Go.Proofs.Ytegomldlkbgemaa
