/- Chapter 2: the laws' comparisons of gaps and columns, and their room. -/
import Derived.Test.YthmoonjceokijaaDcB
import Derived.Test.YthmoonjceokijaaHas
import Derived.Deep.DeepCutAuto
import Derived.RegionTactic
namespace Go.Proofs.Ythmoonjceokijaa
open Go.RowKit
set_option linter.unusedVariables false

set_option maxHeartbeats 400000 in
theorem sameG_any (w : World) (B B' : Nat) (A A' : Option Addr) (c c' : Nat) (l : List Gp) (hl : l.length ≤ 1048576) (hB : B ≤ w.heap.size) (hB' : B' ≤ w.heap.size) (hS : gpL w B A l) (hS' : gpL w B' A' l) :
    Calls Try.prog 18 #[.slice A l.length c, .slice A' l.length c'] w fun e w' => e = .returned (.bool true) ∧ Below w.heap.size w w' := by
  have e0 : ((l.length : Int) != (l.length : Int)) = false := by simp
  have HS := Lib.hid hS; have HS' := Lib.hid hS'; clear hS hS'
  go_enter Try.func18, Try.ntmps18
  go_wp2
  clear e0
  go_loopw [5] (fun i wr => ∃ k : Nat, k ≤ l.length ∧ i = .int .i64 k ∧ Below w.heap.size w wr) (fun i _ => l.length - (intOf i).toNat)
  case atStart => exact ⟨0, Nat.zero_le _, rfl, Below.refl _ _⟩
  case round =>
    obtain ⟨k, hk, rfl, hb⟩ := hrel
    by_cases hlt : k < l.length
    · have hsz := hb.size
      obtain ⟨b, off, x, rfl, hbB, hx, hc0, hc1, hc2⟩ := (HS.out.later hB hb).at_ hlt
      obtain ⟨b', off', y, rfl, hbB', hy, hd0, hd1, hd2⟩ := (HS'.out.later hB' hb).at_ hlt
      obtain rfl : x = y := by rw [hx] at hy; injection hy
      clear hx hy
      go_wp2
      go_quiet (fail)
      go_wp2
      go_roundw
      case rel => exact ⟨k + 1, by omega, by go_num, below_drewN hb _⟩
      case measure => simp [intOf]; omega
    · go_wp2
      go_ret
      exact ⟨rfl, hb⟩
theorem gsum_take {l : List Gp} {k : Nat} {x : Gp} (h : l[k]? = some x) : gsum (l.take (k + 1)) = gsum (l.take k) + x.size := by
  unfold gsum; rw [List.take_add_one, h]; simp
theorem gsum_bd {l : List Gp} (h : ∀ g ∈ l, 0 ≤ g.size ∧ g.size ≤ 24) : ∀ k, 0 ≤ gsum (l.take k) ∧ gsum (l.take k) ≤ 24 * (k : Int)
  | 0 => by simp [gsum]
  | k + 1 => by
    have ih := gsum_bd h k
    by_cases hk : k < l.length
    · have hx := List.getElem?_eq_getElem hk
      rw [gsum_take hx]
      have := h _ (List.getElem_mem hk)
      push_cast; omega
    · rw [List.take_of_length_le (by omega)] at ih ⊢
      push_cast; omega
set_option maxHeartbeats 400000 in
theorem room_any (w : World) (B : Nat) (A : Option Addr) (c : Nat) (l : List Gp) (hl : l.length ≤ 1048576) (hB : B ≤ w.heap.size) (hS : gpL w B A l) (hz : ∀ g ∈ l, 0 ≤ g.size ∧ g.size ≤ 24) :
    Calls Try.prog 13 #[.slice A l.length c] w fun e w' => e = .returned (.int .i64 (gsum l)) ∧ Below w.heap.size w w' := by
  have HS := Lib.hid hS; have HZ := Lib.hid (gsum_bd hz); clear hS hz
  go_enter Try.func13, Try.ntmps13
  go_wp2
  go_loopw [3, 4] (fun s i wr => ∃ k : Nat, k ≤ l.length ∧ i = .int .i64 k ∧ s = .int .i64 (gsum (l.take k)) ∧ Below w.heap.size w wr) (fun _ i _ => l.length - (intOf i).toNat)
  case atStart => exact ⟨0, Nat.zero_le _, rfl, by simp [gsum], Below.refl _ _⟩
  case round =>
    obtain ⟨k, hk, rfl, rfl, hb⟩ := hrel
    have HB := Lib.hid hb
    by_cases hlt : k < l.length
    · have hsz := hb.size
      obtain ⟨b, off, x, rfl, hbB, hx, hc0, hc1, hc2⟩ := (HS.out.later hB hb).at_ hlt
      have h1 := HZ.out k
      have h2 := HZ.out (k + 1)
      rw [gsum_take hx] at h2
      have HT := Lib.hid (gsum_take hx)
      push_cast at h2
      clear hx hb
      generalize gsum (l.take k) = s at *
      go_wp2
      go_roundw
      case rel => exact ⟨k + 1, by omega, by go_num, by rw [HT.out], HB.out⟩
      case measure => simp [intOf]; omega
    · have hkl : k = l.length := by omega
      subst hkl
      rw [List.take_length]
      go_wp2
      go_ret
      exact ⟨rfl, HB.out⟩
set_option maxHeartbeats 400000 in
theorem sameB_any (w : World) (B B' : Nat) (A A' : Option Addr) (c c' : Nat) (l : List Bx) (hl : l.length ≤ 1048576) (hB : B ≤ w.heap.size) (hB' : B' ≤ w.heap.size) (hS : XL w B A l) (hS' : XL w B' A' l) :
    Calls Try.prog 35 #[.slice A l.length c, .slice A' l.length c'] w fun e w' => e = .returned (.bool true) ∧ Below w.heap.size w w' := by
  have e0 : ((l.length : Int) != (l.length : Int)) = false := by simp
  have HS := Lib.hid hS; have HS' := Lib.hid hS'; clear hS hS'
  go_enter Try.func35, Try.ntmps35
  go_wp2
  clear e0
  go_loopw [5] (fun i wr => ∃ k : Nat, k ≤ l.length ∧ i = .int .i64 k ∧ Below w.heap.size w wr) (fun i _ => l.length - (intOf i).toNat)
  case atStart => exact ⟨0, Nat.zero_le _, rfl, Below.refl _ _⟩
  case round =>
    obtain ⟨k, hk, rfl, hb⟩ := hrel
    by_cases hlt : k < l.length
    · have hsz := hb.size
      obtain ⟨b, off, x, rfl, hbB, hx, hc0, hc1, hc2, hc3⟩ := (HS.out.later hB hb).at_ hlt
      obtain ⟨b', off', y, rfl, hbB', hy, hd0, hd1, hd2, hd3⟩ := (HS'.out.later hB' hb).at_ hlt
      obtain rfl : x = y := by rw [hx] at hy; injection hy
      clear hx hy
      go_wp2
      go_quiet (fail)
      go_wp2
      go_roundw
      case rel => exact ⟨k + 1, by omega, by go_num, below_drewN hb _⟩
      case measure => simp [intOf]; omega
    · go_wp2
      go_ret
      exact ⟨rfl, hb⟩
set_option maxHeartbeats 1000000 in
theorem sameC_any (w : World) (B B' : Nat) (z : Int) (A1 A2 A3 A4 : Option Addr) (c1 c2 c3 c4 : Nat) (F : List Int) (L : List Bx) (hf : F.length ≤ 1048576) (hl : L.length ≤ 1048576) (hB : B ≤ w.heap.size) (hB' : B' ≤ w.heap.size) (h1 : IL w B A1 F) (h2 : XL w B A2 L) (h3 : IL w B' A3 F) (h4 : XL w B' A4 L) :
    Calls Try.prog 9 #[.agg #[.int .i64 z, .slice A1 F.length c1, .slice A2 L.length c2], .agg #[.int .i64 z, .slice A3 F.length c3, .slice A4 L.length c4]] w fun e w' => e = .returned (.bool true) ∧ Below w.heap.size w w' := by
  have H1 := Lib.hid h1; have H2 := Lib.hid h2; have H3 := Lib.hid h3; have H4 := Lib.hid h4; clear h1 h2 h3 h4
  have ez : (z == z) = true := by simp
  go_enter Try.func9, Try.ntmps9
  go_wp2_with fail
  generalize hX : ((w.alloc (.cells #[.int .i64 z, .slice A1 F.length c1, .slice A2 L.length c2] 27)).alloc (.cells #[.int .i64 z, .slice A3 F.length c3, .slice A4 L.length c4] 27)) = w1
  have b1 : Below w.heap.size w w1 := by rw [← hX]; exact bthen (balloc _ _) (balloc _ _)
  have k1 : Has w1 w.heap.size 27 #[.int .i64 z, .slice A1 F.length c1, .slice A2 L.length c2] := by rw [← hX]; exact has_alloc (has_new _ _ _) _
  have k2 : Has w1 (w.heap.size + 1) 27 #[.int .i64 z, .slice A3 F.length c3, .slice A4 L.length c4] := by rw [← hX]; have := has_new (w.alloc (.cells #[.int .i64 z, .slice A1 F.length c1, .slice A2 L.length c2] 27)) 27 #[.int .i64 z, .slice A3 F.length c3, .slice A4 L.length c4]; simpa using this
  clear hX
  have hs1 := b1.size
  refine (sameL_any w1 w1.heap.size A1 A3 c1 c3 F hf (Nat.le_refl _) ((H1.out.below (b1.mono hB)).more (by omega)) ((H3.out.below (b1.mono hB')).more (by omega))).mono ?_
  rintro e w2 ⟨rfl, hb⟩
  have k1' := has_call k1 hb; have k2' := has_call k2 hb
  have b2 := bthen b1 hb
  have hs2 := b2.size
  have e0 := has_cell k1' 2 rfl; have e1 := has_cell k2' 2 rfl; have e2 := has_lt k1'; have e3 := has_lt k2'
  clear k1 k2 k1' k2' hb
  go_wp2_with fail
  refine (sameB_any w2 B B' A2 A4 c2 c4 L hl (by omega) (by omega) (H2.out.below (b2.mono hB)) (H4.out.below (b2.mono hB'))).mono ?_
  rintro e w3 ⟨rfl, hb⟩
  go_wp2_with fail
  go_ret
  exact ⟨rfl, bthen b2 hb⟩
/-- the draw of a column for a law -/
def DrwC (w : World) (e : Ending) (w' : World) : Prop := ∃ x : Cl, e = .returned (.agg #[.int .i64 x.z, .slice x.AF x.F.length x.cF, .slice x.AB x.L.length x.cB]) ∧ x.F.length ≤ 2 ∧ x.L.length ≤ 24 ∧ IL w' w'.heap.size x.AF x.F ∧ XL w' w'.heap.size x.AB x.L ∧ Below w.heap.size w w'
set_option maxRecDepth 100000 in
set_option maxHeartbeats 2000000 in
theorem drawG_any (w : World) (A : Option Addr) (n c : Nat) (hn : n ≤ maxLen) (hS : BS w w.heap.size A n) : Calls Try.prog 15 #[.slice A n c] w (DrwC w) := by
  have HS := Lib.hid hS; clear hS
  go_enter Try.func15, Try.ntmps15
  go_wp2_with fail
  generalize hX : (w.alloc (.cells #[.int .i64 0, .slice none 0 0, .slice none 0 0] 27)) = w1
  have zb : Below w.heap.size w w1 := by rw [← hX]; exact balloc _ _
  have zr : Has w1 w.heap.size 27 #[.int .i64 0, .slice none 0 0, .slice none 0 0] := by rw [← hX]; exact has_new _ _ _
  clear hX
  have hl1 := has_lt zr
  refine (new_any w1 w.heap.size A n c hn (by omega) (HS.out.below zb)).mono ?_
  rintro e w2 ⟨rfl, hC, hb⟩
  have zr2 := has_call zr hb; have zb2 := bthen zb hb; have hs2 := hb.size
  have HC := Lib.hid hC; clear hC hb zr zb
  go_wp2_with fail
  refine (anyC_any w2 w.heap.size w1.heap.size HC.out).mono ?_
  rintro e w3 ⟨z, F, L, A1, A2, n1, n2, rfl, ⟨hF, hL⟩, or1, or2, hC9, hO9⟩
  have zr3 := has_only zr2 hO9 (by omega)
  have zb3 := zb2.trans (only_below hO9 (by omega) (by omega))
  have hq1 := or1.il; have hq2 := or2.xl
  have y0 := has_cell zr3 0 rfl; have y1 := has_cell zr3 1 rfl; have y2 := has_cell zr3 2 rfl; have f0 := has_free zr3 0; have f1 := has_free zr3 1; have f2 := has_free zr3 2
  have hl3 := has_lt zr3
  have X1 := Lib.hid (set3 (u := .int .i64 z) (v := .slice A1 F.length n1) (x := .slice A2 L.length n2) zr3)
  have q1 := ((((or1.or.set_other zr3 (by decide) 0 (.int .i64 z)).set_other (has_set zr3 0 _) (by decide) 1 (.slice A1 F.length n1)).set_other (has_set (has_set zr3 0 _) 1 _) (by decide) 2 (.slice A2 L.length n2))).il
  have q2 := (((or2.set_other zr3 (by decide) 0 (.int .i64 z)).set_other (has_set zr3 0 _) (by decide) 1 (.slice A1 F.length n1)).set_other (has_set (has_set zr3 0 _) 1 _) (by decide) 2 (.slice A2 L.length n2)).xl
  have q3 := ((zb3.setCell (p := ⟨w.heap.size, 0, none⟩) (Nat.le_refl _) (.int .i64 z)).setCell (p := ⟨w.heap.size, 1, none⟩) (Nat.le_refl _) (.slice A1 F.length n1)).setCell (p := ⟨w.heap.size, 2, none⟩) (Nat.le_refl _) (.slice A2 L.length n2)
  have Q1 := Lib.hid q1; have Q2 := Lib.hid q2; have Q3 := Lib.hid q3
  clear q1 q2 q3 zr2 zr3 or1 or2 hC9 hO9 hq1 hq2 zb2 zb3
  go_wp2_with fail
  have g0 := has_cell X1.out 0 rfl; have g1 := has_cell X1.out 1 rfl; have g2 := has_cell X1.out 2 rfl
  exact bodyPost_ret (v := .agg #[.int .i64 z, .slice A1 F.length n1, .slice A2 L.length n2]) (by simp [results, Try.results15, go_sem, g0, g1, g2]) rfl ⟨⟨z, A1, F, n1, A2, L, n2⟩, rfl, hF, hL, Q1.out, Q2.out, Q3.out⟩
end Go.Proofs.Ythmoonjceokijaa
