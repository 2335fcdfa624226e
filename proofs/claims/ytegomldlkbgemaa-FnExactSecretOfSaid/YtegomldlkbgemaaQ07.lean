/- Chapter 1: contracts of the law's own helpers over spans: the copy, the comparison. -/
import Derived.Test.YtegomldlkbgemaaQ01
import Derived.Laws.Rows
import Derived.Laws.NewBlocks
import Derived.StillTailTactics
import Derived.Test.YtegomldlkbgemaaQ06
namespace Go.Proofs.Ytegomldlkbgemaa
open Go.RowKit
set_option linter.unusedVariables false
set_option maxRecDepth 100000

/-- the cells of a list of spans, one behind the other -/
def cellsL (l : List (Int × Int)) : List Value := l.flatMap fun x => [.int .i64 x.1, .int .i64 x.2]

/-- block g holds the first k spans of the list, and has room for all of them -/
structure Copied (w : World) (g : Nat) (cs : Array Value) (l : List (Int × Int)) (k : Nat) : Prop where
  heap : w.heap[g]? = some (.cells cs 121 (0, 0))
  size : cs.size = l.length * 2
  got : ∀ j x, j < k → l[j]? = some x → cs[j * 2]? = some (.int .i64 x.1) ∧ cs[j * 2 + 1]? = some (.int .i64 x.2)
theorem Copied.lt {w : World} {g : Nat} {cs : Array Value} {l : List (Int × Int)} {k : Nat} (h : Copied w g cs l k) : g < w.heap.size := by
  rcases Nat.lt_or_ge g w.heap.size with hlt | hge
  · exact hlt
  · have := h.heap; rw [Array.getElem?_eq_none hge] at this; cases this
theorem Copied.below {w w' : World} {g : Nat} {cs : Array Value} {l : List (Int × Int)} {k : Nat} (h : Copied w g cs l k) (hb : Below w.heap.size w w') : Copied w' g cs l k :=
  ⟨(hb.block g h.lt).trans h.heap, h.size, h.got⟩
theorem Copied.cell {w : World} {g : Nat} {cs : Array Value} {l : List (Int × Int)} {k : Nat} (h : Copied w g cs l k) (j : Nat) : w.cell? ⟨g, j, none⟩ = cs[j]? := cell_of_row w g j cs _ (0, 0) h.heap
theorem Copied.cellAt {w : World} {g : Nat} {cs : Array Value} {l : List (Int × Int)} {k j : Nat} (h : Copied w g cs l k) (hj : j < l.length * 2) : ∃ u, w.cell? ⟨g, j, none⟩ = some u := by
  rw [h.cell]; exact ⟨cs[j]'(by rw [h.size]; exact hj), Array.getElem?_eq_getElem _⟩
theorem Copied.frozenAt {w : World} {g : Nat} {cs : Array Value} {l : List (Int × Int)} {k : Nat} (h : Copied w g cs l k) (j : Nat) : w.frozen? ⟨g, j, none⟩ = false := by
  simp [World.frozen?, h.heap]
theorem Copied.step {w : World} {g : Nat} {cs : Array Value} {l : List (Int × Int)} {k : Nat} (h : Copied w g cs l k) {x : Int × Int} (hx : l[k]? = some x) :
    Copied ((w.setCell ⟨g, k * 2, none⟩ (.int .i64 x.1)).setCell ⟨g, k * 2 + 1, none⟩ (.int .i64 x.2)) g ((cs.setIfInBounds (k * 2) (.int .i64 x.1)).setIfInBounds (k * 2 + 1) (.int .i64 x.2)) l (k + 1) := by
  have hlt : k < l.length := (List.getElem?_eq_some_iff.1 hx).1
  have hsz := h.size
  refine ⟨?_, by simp [h.size], fun j y hj hy => ?_⟩
  · simp [World.setCell, Array.getElem?_modify, h.heap]
  · by_cases hjk : j = k
    · subst hjk
      obtain rfl : x = y := by rw [hx] at hy; injection hy
      simp only [Array.getElem?_setIfInBounds]
      constructor
      · rw [if_neg (by omega), if_pos trivial, if_pos (by omega)]
      · rw [if_pos trivial, if_pos (by simp; omega)]
    · have := h.got j y (by omega) hy
      simp only [Array.getElem?_setIfInBounds]
      rw [if_neg (by omega), if_neg (by omega), if_neg (by omega), if_neg (by omega)]
      exact this
theorem Copied.reads {w : World} {g : Nat} {cs : Array Value} {l : List (Int × Int)} (h : Copied w g cs l l.length) : SL w w.heap.size (some ⟨g, 0, none⟩) l := by
  refine .inr ⟨g, 0, rfl, h.lt, fun k x hx => ?_⟩
  have hlt : k < l.length := (List.getElem?_eq_some_iff.1 hx).1
  have := h.got k x hlt hx
  rw [Nat.zero_add, h.cell, h.cell]; exact this
theorem spanInfo : (Try.prog.info? 121).map (fun i => (i.zero, i.size, i.bytes)) = some (some (.agg #[.int .i64 0, .int .i64 0]), 2, 16) := by kernel_rfl

set_option maxHeartbeats 400000 in
theorem toSpanS_any (w : World) (B : Nat) (A : Option Addr) (c : Nat) (l : List (Int × Int)) (hl : l.length ≤ 1048576) (hB : B ≤ w.heap.size) (hS : SL w B A l) :
    Calls Try.prog 47 #[.slice A l.length c] w fun e w' => ∃ A', e = .returned (.slice A' l.length l.length) ∧ (∀ a, A' = some a → w.heap.size ≤ a.block) ∧ SL w' w'.heap.size A' l ∧ Below w.heap.size w w' := by
  have hmk : ∀ W : World, (Instr.makeSlice 67 (.int .i64 (l.length : Int)) (.int .i64 (l.length : Int))).run Try.prog W = .ok (.slice (some ⟨W.heap.size, 0, none⟩) l.length l.length) (W.alloc (.cells (madeCells #[.int .i64 0, .int .i64 0] (l.length * 2)) 121)) := by
    intro W
    obtain ⟨i, hi, hz0, hz1, hz2⟩ := info_parts spanInfo
    have := run_make (P := Try.prog) W 67 121 i _ Try.underlying67 hi hz0 .i64 .i64 (l.length : Int) (l.length : Int) (by omega) (by omega) (by rw [hz2]; omega) (by omega)
    simpa [hz1, Value.cells] using this
  go_enter Try.func47, Try.ntmps47
  go_wp2
  go_loopw [4] (fun i wr => ∃ (k : Nat) (cs : Array Value), k ≤ l.length ∧ i = .int .i64 k ∧ Copied wr w.heap.size cs l k ∧ Below w.heap.size w wr) (fun i _ => l.length - (intOf i).toNat)
  case atStart => exact ⟨0, _, Nat.zero_le _, rfl, ⟨heap_alloc_new w _, by simp [size_madeCells], fun j x hj => absurd hj (by omega)⟩, (Below.refl _ _).alloc (Nat.le_refl _) _⟩
  case round =>
    obtain ⟨k, cs, hk, rfl, hcp, hb⟩ := hrel
    have HC := Lib.hid hcp; clear hcp
    clear hmk
    have hsz := hb.size
    by_cases hlt : k < l.length
    · obtain ⟨b, off, x0, x1, rfl, hbB, hx, hc0, hc1⟩ := (hS.below (hb.mono hB)).at_ hlt
      have Hx := Lib.hid hx; clear hx
      have HS := Lib.hid hS; clear hS
      go_wp2_with fail
      refine (toSpan_any _ _ _).mono ?_
      rintro e w1 ⟨rfl, hb1⟩
      have hC1 := HC.out.below hb1
      have hs0 := hC1.cellAt (j := k * 2) (by omega)
      have hs1 := hC1.cellAt (j := k * 2 + 1) (by omega)
      have hf : ∀ j, w1.frozen? ⟨w.heap.size, j, none⟩ = false := hC1.frozenAt
      obtain ⟨u0, hu0⟩ := hs0
      obtain ⟨u1, hu1⟩ := hs1
      have hf0 := hf (k * 2)
      have hf1 := hf (k * 2 + 1)
      have HC1 := Lib.hid hC1; clear hC1 hf
      go_wp2
      go_roundw
      case rel => exact ⟨k + 1, _, by omega, by go_num, HC1.out.step Hx.out, ((hb.trans (hb1.mono hsz)).setCell (Nat.le_refl _) _).setCell (Nat.le_refl _) _⟩
      case measure => simp [intOf]; omega
    · go_wp2
      go_ret
      have hkl : k = l.length := by omega
      subst hkl
      exact ⟨_, rfl, fun a ha => by injection ha with ha; subst ha; exact Nat.le_refl _, HC.out.reads, hb⟩

set_option maxHeartbeats 400000 in
theorem eqSpanS_any (w : World) (B B' : Nat) (A A' : Option Addr) (c c' : Nat) (l : List (Int × Int)) (hl : l.length ≤ maxLen) (hB : B ≤ w.heap.size) (hB' : B' ≤ w.heap.size) (hS : SL w B A l) (hS' : SL w B' A' l) :
    Calls Try.prog 49 #[.slice A l.length c, .slice A' l.length c'] w fun e w' => e = .returned (.bool true) ∧ Below w.heap.size w w' := by
  unfold maxLen at hl
  have e0 : ((l.length : Int) != (l.length : Int)) = false := by simp
  go_enter Try.func49, Try.ntmps49
  go_wp2
  clear e0
  go_loopw [5] (fun i wr => ∃ k : Nat, k ≤ l.length ∧ i = .int .i64 k ∧ Below w.heap.size w wr) (fun i _ => l.length - (intOf i).toNat)
  case atStart => exact ⟨0, Nat.zero_le _, rfl, Below.refl _ _⟩
  case round =>
    obtain ⟨k, hk, rfl, hb⟩ := hrel
    by_cases hlt : k < l.length
    · have hsz := hb.size
      obtain ⟨b, off, x0, x1, rfl, hbB, hx, hc0, hc1⟩ := (hS.below (hb.mono hB)).at_ hlt
      obtain ⟨b', off', y0, y1, rfl, hbB', hy, hd0, hd1⟩ := (hS'.below (hb.mono hB')).at_ hlt
      obtain ⟨rfl, rfl⟩ : x0 = y0 ∧ x1 = y1 := by rw [hx] at hy; injection hy with hy; injection hy with e1 e2; exact ⟨e1, e2⟩
      clear hx hy
      have HS := Lib.hid hS; clear hS
      have HS' := Lib.hid hS'; clear hS'
      have hbw : b < wr.heap.size := by omega
      have hbw' : b' < wr.heap.size := by omega
      go_wp2
      go_still_tail 8, (by kernel_rfl)
      change wpList _ _ _ _ _ wr.drew
      go_wp2_with (go_at_call 56; refine (eqSpan_any _ _ _ _ _).mono ?_; rintro e w1 ⟨rfl, hb1⟩)
      go_roundw
      case rel => exact ⟨k + 1, by omega, by go_num, (hb.drew).trans (hb1.mono hsz)⟩
      case measure => simp [intOf]; omega
    · go_wp2
      go_ret
      exact ⟨rfl, hb⟩
end Go.Proofs.Ytegomldlkbgemaa
namespace Go.Proofs.Ytegomldlkbgemaa
open Go.RowKit
set_option linter.unusedVariables false
set_option maxRecDepth 100000

def szW (left : Int) (n n' : Nat) : Int := if left < n then -1 else szI (left - n) n'
theorem szW_any (w : World) (A A' : Option Addr) (k n k' n' : Nat) (left : Int) (hk : k ≤ maxLen) (hk' : k' ≤ maxLen) (h1 : 0 ≤ left) (h2 : left ≤ 1048576) :
    Calls Try.prog 35 #[.agg #[.slice A k n, .slice A' k' n'], .int .i64 left] w fun e w' => e = .returned (.int .i64 (szW left k k')) ∧ Below w.heap.size w w' := by
  have hb0 := fun o => balloc w o
  have H0 := Lib.hid hb0; clear hb0
  by_cases h : left < k
  · have hs : szI left k = -1 := if_pos h
    have hf : szW left k k' = -1 := if_pos h
    have Hs := Lib.hid hs; clear hs
    have Hf := Lib.hid hf; clear hf
    go_enter Try.func35, Try.ntmps35
    go_wp2_with fail
    refine (sz_any _ _ _ _ _ hk h1 h2).mono ?_
    rintro e w1 ⟨rfl, rfl⟩
    rw [Hs.out]
    go_wp2_with fail
    go_ret
    exact ⟨ret_int Hf.out.symm, H0.out _⟩
  · have hs : szI left k = left - k := if_neg h
    have hf : szW left k k' = szI (left - k) k' := if_neg h
    have Hs := Lib.hid hs; clear hs
    have Hf := Lib.hid hf; clear hf
    by_cases h' : left - k < k'
    · have hs' : szI (left - k) k' = -1 := if_pos h'
      have Hs' := Lib.hid hs'; clear hs'
      go_enter Try.func35, Try.ntmps35
      go_wp2_with fail
      refine (sz_any _ _ _ _ _ hk h1 h2).mono ?_
      rintro e w1 ⟨rfl, rfl⟩
      rw [Hs.out]
      go_wp2_with fail
      refine (sz_any _ _ _ _ _ hk' (by omega) (by omega)).mono ?_
      rintro e w1 ⟨rfl, rfl⟩
      rw [Hs'.out]
      go_wp2_with fail
      go_ret
      exact ⟨ret_int (Hf.out.trans Hs'.out).symm, H0.out _⟩
    · have hs' : szI (left - k) k' = left - k - k' := if_neg h'
      have Hs' := Lib.hid hs'; clear hs'
      go_enter Try.func35, Try.ntmps35
      go_wp2_with fail
      refine (sz_any _ _ _ _ _ hk h1 h2).mono ?_
      rintro e w1 ⟨rfl, rfl⟩
      rw [Hs.out]
      go_wp2_with fail
      refine (sz_any _ _ _ _ _ hk' (by omega) (by omega)).mono ?_
      rintro e w1 ⟨rfl, rfl⟩
      rw [Hs'.out]
      go_wp2_with fail
      go_ret
      exact ⟨ret_int (Hf.out.trans Hs'.out).symm, H0.out _⟩

set_option maxHeartbeats 400000 in
theorem toWeek_any (w : World) (B : Nat) (A A' : Option Addr) (n n' : Nat) (o c : List (Int × Int)) (ho : o.length ≤ 1048576) (hc : c.length ≤ 1048576) (hB : B ≤ w.heap.size) (hS : SL w B A o) (hS' : SL w B A' c) :
    Calls Try.prog 37 #[.agg #[.slice A o.length n, .slice A' c.length n']] w fun e w' => ∃ A2 A2', e = .returned (.agg #[.slice A2 o.length o.length, .slice A2' c.length c.length]) ∧ SL w' w'.heap.size A2 o ∧ SL w' w'.heap.size A2' c ∧ Below w.heap.size w w' := by
  have hb0 := fun o => balloc w o
  have HS := Lib.hid hS; clear hS
  have HS' := Lib.hid hS'; clear hS'
  have H0 := Lib.hid hb0; clear hb0
  have hb3 : ∀ o1 o2 o3, Below w.heap.size w (((w.alloc o1).alloc o2).alloc o3) := fun o1 o2 o3 => bthen (bthen (balloc w o1) (balloc _ o2)) (balloc _ o3)
  have H3 := Lib.hid hb3; clear hb3
  go_enter Try.func37, Try.ntmps37
  go_wp2_with fail
  generalize hW0 : (((w.alloc (.cells #[.slice A o.length n, .slice A' c.length n'] 61)).alloc (.cells #[.slice none 0 0, .slice none 0 0] 69)).alloc (.cells #[.slice none 0 0, .slice none 0 0] 69)) = w0
  have b0 : Below w.heap.size w w0 := by rw [← hW0]; exact H3.out _ _ _
  have k0 : Has w0 w.heap.size 61 #[.slice A o.length n, .slice A' c.length n'] := by rw [← hW0]; exact has_alloc (has_alloc (has_new _ _ _) _) _
  have k1 : Has w0 (w.heap.size + 1) 69 #[.slice none 0 0, .slice none 0 0] := by rw [← hW0]; have := has_alloc (has_new (w.alloc (.cells #[.slice A o.length n, .slice A' c.length n'] 61)) 69 #[.slice none 0 0, .slice none 0 0]) (.cells #[.slice none 0 0, .slice none 0 0] 69); simpa using this
  have k2 : Has w0 (w.heap.size + 1 + 1) 69 #[.slice none 0 0, .slice none 0 0] := by rw [← hW0]; have := has_new ((w.alloc (.cells #[.slice A o.length n, .slice A' c.length n'] 61)).alloc (.cells #[.slice none 0 0, .slice none 0 0] 69)) 69 #[.slice none 0 0, .slice none 0 0]; simpa using this
  clear hW0
  have hz0 := has_lt k2
  refine (toSpanS_any _ B A n o ho (by have := b0.size; omega) (HS.out.later hB b0)).mono ?_
  rintro e w1 ⟨A2, rfl, hA2, hS1, hb1⟩
  have HS1 := Lib.hid hS1; clear hS1
  have HA2 := Lib.hid hA2; clear hA2
  have m0 := has_call k0 hb1
  have m1 := has_call k1 hb1
  have m2 := has_call k2 hb1
  have hbx := bthen b0 hb1
  have hsz1 := hb1.size
  have e1 := has_cell m0 1 rfl
  have e2 := has_cell m2 0 rfl
  have f2 := has_free m2 0
  have M0 := Lib.hid m0; have M1 := Lib.hid m1; have M2 := Lib.hid m2; clear m0 m1 m2
  go_wp2_with fail
  clear e1 e2 f2
  generalize hW1 : (w1.setCell ⟨w.heap.size + 1 + 1, 0, none⟩ (.slice A2 o.length o.length)) = w1'
  have bw : Below w.heap.size w w1' := by rw [← hW1]; exact hbx.setCell (by simp; omega) _
  have n1 : Has w1' (w.heap.size + 1) 69 #[.slice none 0 0, .slice none 0 0] := by rw [← hW1]; exact has_far M1.out (by simp) _
  have n2 : Has w1' (w.heap.size + 1 + 1) 69 #[.slice A2 o.length o.length, .slice none 0 0] := by rw [← hW1]; have := has_set M2.out 0 (.slice A2 o.length o.length); simpa using this
  have s1 : SL w1' w1'.heap.size A2 o := by
    rw [← hW1, size_set]
    refine HS1.out.set fun a ha => ?_
    have := HA2.out a ha
    simp; omega
  have S1 := Lib.hid s1; clear s1
  have hsz1' : w1'.heap.size = w1.heap.size := by rw [← hW1, size_set]
  clear hW1
  refine (toSpanS_any _ B A' n' c hc (by omega) (HS'.out.later hB bw)).mono ?_
  rintro e w2 ⟨A3, rfl, hA3, hS3, hb2⟩
  have HS3 := Lib.hid hS3; clear hS3
  have HA3 := Lib.hid hA3; clear hA3
  have p1 := has_call n1 hb2
  have p2 := has_call n2 hb2
  have hsz2 := hb2.size
  have e1 := has_cell p2 0 rfl
  have e2 := has_cell p2 1 rfl
  have e3 := has_cell p1 0 rfl
  have e4 := has_cell p1 1 rfl
  have f1 := has_free p2 1
  have f3 := has_free p1 0
  have f4 := has_free p1 1
  have P1 := Lib.hid p1; have P2 := Lib.hid p2; clear p1 p2
  have HN1 := Lib.hid n1; have HN2 := Lib.hid n2; clear n1 n2
  have HB2 := Lib.hid hb2; clear hb2
  have HB1 := Lib.hid hb1; clear hb1 
  have K0 := Lib.hid k0; have K1 := Lib.hid k1; have K2 := Lib.hid k2; clear k0 k1 k2
  have SZ := Lib.hid hsz1'; clear hsz1'
  go_wp2_with fail
  clear e1 e2 e3 e4 f1 f3 f4
  have q1 : Has (((w2.setCell ⟨w.heap.size + 1 + 1, 1, none⟩ (.slice A3 c.length c.length)).setCell ⟨w.heap.size + 1, 0, none⟩ (.slice A2 o.length o.length)).setCell ⟨w.heap.size + 1, 1, none⟩ (.slice A3 c.length c.length)) (w.heap.size + 1) 69 #[.slice A2 o.length o.length, .slice A3 c.length c.length] := by
    have := has_set (has_set (has_far P1.out (p := ⟨w.heap.size + 1 + 1, 1, none⟩) (by simp) (.slice A3 c.length c.length)) 0 (.slice A2 o.length o.length)) 1 (.slice A3 c.length c.length)
    simpa using this
  have g0 := has_cell q1 0 rfl
  have g1 := has_cell q1 1 rfl
  refine bodyPost_ret (v := .agg #[.slice A2 o.length o.length, .slice A3 c.length c.length]) (by simp [results, Try.results37, go_sem, g0, g1]) rfl ⟨A2, A3, rfl, ?_, ?_, ?_⟩
  · simp only [size_set]
    have sA : SL w2 w2.heap.size A2 o := ((S1.out).below HB2.out).more HB2.out.size
    refine ((sA.set fun a ha => ?_).set fun a ha => ?_).set fun a ha => ?_
    all_goals
      have := HA2.out a ha
      simp; omega
  · simp only [size_set]
    refine ((HS3.out.set fun a ha => ?_).set fun a ha => ?_).set fun a ha => ?_
    all_goals
      have := HA3.out a ha
      have := SZ.out
      simp; omega
  · exact (((bw.trans (HB2.out.mono bw.size)).setCell (by simp; omega) _).setCell (by simp) _).setCell (by simp) _

set_option maxHeartbeats 400000 in
theorem eqWeek_any (w : World) (B B' : Nat) (A A' A2 A2' : Option Addr) (n n' n2 n2' : Nat) (o c : List (Int × Int)) (ho : o.length ≤ maxLen) (hc : c.length ≤ maxLen) (hB : B ≤ w.heap.size) (hB' : B' ≤ w.heap.size) (hS : SL w B A o) (hS' : SL w B A' c) (hT : SL w B' A2 o) (hT' : SL w B' A2' c) :
    Calls Try.prog 41 #[.agg #[.slice A o.length n, .slice A' c.length n'], .agg #[.slice A2 o.length n2, .slice A2' c.length n2']] w fun e w' => e = .returned (.bool true) ∧ Below w.heap.size w w' := by
  have hb0 : ∀ o1 o2, Below w.heap.size w ((w.alloc o1).alloc o2) := fun o1 o2 => bthen (balloc w o1) (balloc _ o2)
  have HS := Lib.hid hS; clear hS
  have HS' := Lib.hid hS'; clear hS'
  have HT := Lib.hid hT; clear hT
  have HT' := Lib.hid hT'; clear hT'
  have H0 := Lib.hid hb0; clear hb0
  go_enter Try.func41, Try.ntmps41
  go_wp2_with fail
  refine (eqSpanS_any _ B B' A A2 n n2 o ho (by simp; omega) (by simp; omega) (HS.out.later hB (H0.out _ _)) (HT.out.later hB' (H0.out _ _))).mono ?_
  rintro e w1 ⟨rfl, hb1⟩
  have hbx := bthen (H0.out _ _) hb1
  have hold := bold hb1
  go_wp2_with fail
  clear hold
  refine (eqSpanS_any _ B B' A' A2' n' n2' c hc (by have := hbx.size; omega) (by have := hbx.size; omega) (HS'.out.later hB hbx) (HT'.out.later hB' hbx)).mono ?_
  rintro e w2 ⟨rfl, hb2⟩
  go_wp2_with fail
  go_ret
  exact ⟨rfl, bthen hbx hb2⟩
end Go.Proofs.Ytegomldlkbgemaa
