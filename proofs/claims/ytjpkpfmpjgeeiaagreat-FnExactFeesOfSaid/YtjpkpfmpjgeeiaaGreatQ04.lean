
/- Chapter 2: contracts of what the program's ColumnOk calls. -/
import Derived.Test.YtjpkpfmpjgeeiaaGreatQ02
namespace Go.Proofs.YtjpkpfmpjgeeiaaGreat
open Go.RowKit
set_option linter.unusedVariables false

/-- the first index at which the list has x -/
def idxFrom (x : Int) : List Int → Nat → Int
  | [], _ => -1
  | a :: r, k => if x = a then k else idxFrom x r (k + 1)
theorem idx_drop (x : Int) (l : List Int) (k : Nat) (a : Int) (hk : l[k]? = some a) : idxFrom x (l.drop k) k = if x = a then (k : Int) else idxFrom x (l.drop (k + 1)) (k + 1) := by
  have hlt : k < l.length := (List.getElem?_eq_some_iff.1 hk).1
  rw [List.drop_eq_getElem_cons hlt]
  have : l[k] = a := by rw [List.getElem?_eq_getElem hlt] at hk; injection hk
  rw [this]; rfl
theorem idx_has (x : Int) : ∀ (l : List Int) (k : Nat), (0 ≤ idxFrom x l k ↔ x ∈ l)
  | [], k => by simp [idxFrom]
  | a :: r, k => by
    unfold idxFrom
    by_cases h : x = a
    · rw [if_pos h]; simp [h]
    · rw [if_neg h, idx_has x r (k + 1)]; simp [h]
set_option maxHeartbeats 400000 in
theorem index_any (w : World) (B : Nat) (A : Option Addr) (c : Nat) (l : List Int) (x : Int) (hl : l.length ≤ maxLen) (hB : B ≤ w.heap.size) (hS : IL w B A l) :
    Calls Tryz.prog 169 #[.slice A l.length c, .int .i64 x] w fun e w' => e = .returned (.int .i64 (idxFrom x l 0)) ∧ Below w.heap.size w w' := by
  unfold maxLen at hl
  have HS := Lib.hid hS; clear hS
  go_enter Tryz.func169, Tryz.ntmps169
  go_wp2
  go_loopw [8] (fun i wr => ∃ k : Nat, k ≤ l.length ∧ i = .int .i64 k ∧ idxFrom x l 0 = idxFrom x (l.drop k) k ∧ Below w.heap.size w wr) (fun i _ => l.length - (intOf i).toNat)
  case atStart => exact ⟨0, Nat.zero_le _, rfl, by simp, Below.refl _ _⟩
  case round =>
    obtain ⟨k, hk, rfl, hno, hb⟩ := hrel
    have HN := Lib.hid hno; clear hno
    by_cases hlt : k < l.length
    · obtain ⟨b, off, y, rfl, hbB, hy, hc0⟩ := (HS.out.later hB hb).at_ hlt
      have hst := idx_drop x l k y hy
      clear hy
      by_cases e : x = y
      · rw [if_pos e] at hst
        have HST := Lib.hid hst; clear hst
        subst e
        have e0 : (x == x) = true := by simp
        go_wp2
        go_ret
        exact ⟨ret_int (by rw [HN.out, HST.out]), hb⟩
      · rw [if_neg e] at hst
        have HST := Lib.hid hst; clear hst
        have e0 : (x == y) = false := by simpa using e
        go_wp2
        go_roundw
        case rel => exact ⟨k + 1, by omega, by go_num, by rw [HN.out, HST.out], hb⟩
        case measure => simp [intOf]; omega
    · go_wp2
      go_ret
      have hkl : k = l.length := by omega
      subst hkl
      exact ⟨ret_int (by rw [HN.out, List.drop_length]; rfl), hb⟩
set_option maxHeartbeats 400000 in
theorem contains_any (w : World) (B : Nat) (A : Option Addr) (c : Nat) (l : List Int) (x : Int) (hl : l.length ≤ maxLen) (hB : B ≤ w.heap.size) (hS : IL w B A l) :
    Calls Tryz.prog 162 #[.slice A l.length c, .int .i64 x] w fun e w' => e = .returned (.bool (l.contains x)) ∧ Below w.heap.size w w' := by
  go_enter Tryz.func162, Tryz.ntmps162
  go_wp2_with fail
  refine (index_any w B A c l x hl hB hS).mono ?_
  rintro e w1 ⟨rfl, hb1⟩
  have hi := idx_has x l 0
  generalize idxFrom x l 0 = i at *
  have HI := Lib.hid hi; clear hi
  by_cases h0 : 0 ≤ i
  · go_wp2
    go_ret
    exact ⟨ret_bool (by have := HI.out.1 h0; simp [this]), hb1⟩
  · go_wp2
    go_ret
    exact ⟨ret_bool (by have : x ∉ l := fun hm => absurd (HI.out.2 hm) (by omega); simp [this]; omega), hb1⟩

def prevI (F : List Int) : Nat → Int
  | 0 => 0
  | m + 1 => (F[m]?).getD 0
theorem prev_next {F : List Int} {k : Nat} {x : Int} (h : F[k]? = some x) : prevI F (k + 1) = x := by simp [prevI, h]
structure FixTo (h : Int) (F : List Int) (n : Nat) : Prop where
  fix : ∀ (k : Nat) (x : Int), k < n → F[k]? = some x → 1 ≤ x ∧ x < h
  asc : ∀ (k : Nat) (x y : Int), k + 1 < n → F[k]? = some x → F[k + 1]? = some y → x < y
theorem fixTo_zero (h : Int) (F : List Int) : FixTo h F 0 := ⟨fun k x hk => absurd hk (by omega), fun k x y hk => absurd hk (by omega)⟩
theorem fixTo_next {h : Int} {F : List Int} {k : Nat} {x : Int} (hF : FixTo h F k) (hx : F[k]? = some x) (h1 : prevI F k < x) (h2 : x < h) (h3 : 0 ≤ prevI F k) : FixTo h F (k + 1) := by
  refine ⟨fun j y hj hy => ?_, fun j y z hj hy hz => ?_⟩
  · by_cases e : j = k
    · subst e; rw [hx] at hy; injection hy with hy; subst hy; omega
    · exact hF.fix j y (by omega) hy
  · by_cases e : j + 1 = k
    · subst e
      rw [hx] at hz; injection hz with hz; subst hz
      rw [prev_next hy] at h1; exact h1
    · exact hF.asc j y z (by omega) hy hz
theorem fix_done {h : Int} {F : List Int} (h1 : 1 ≤ h) (h2 : h ≤ 24) (hF : FixTo h F F.length) : FixOk h F :=
  ⟨h1, h2, fun k x hx => hF.fix k x (List.getElem?_eq_some_iff.1 hx).1 hx, fun k x y hx hy => hF.asc k x y (List.getElem?_eq_some_iff.1 hy).1 hx hy⟩
theorem fix_no {h : Int} {F : List Int} {k : Nat} {x : Int} (hx : F[k]? = some x) (hbad : x ≤ prevI F k ∨ h ≤ x) : ¬ FixOk h F := fun g => by
  have h1 := g.fix k x hx
  rcases hbad with hb | hb
  · rcases k with _ | m
    · simp [prevI] at hb; omega
    · have hml : m < F.length := by have := (List.getElem?_eq_some_iff.1 hx).1; omega
      have hm : F[m]? = some F[m] := List.getElem?_eq_getElem hml
      rw [prev_next hm] at hb
      have := g.asc m _ x hm hx
      omega
  · omega
set_option maxHeartbeats 400000 in
theorem fixedI_any (w : World) (B : Nat) (A : Option Addr) (c : Nat) (F : List Int) (h : Int) (hl : F.length ≤ maxLen) (hB : B ≤ w.heap.size) (hS : IL w B A F) :
    Calls Tryz.prog 141 #[.int .i64 h, .slice A F.length c] w (Tells (FixOk h F) w) := by
  unfold maxLen at hl
  have HS := Lib.hid hS; clear hS
  by_cases h1 : h < 1
  · go_enter Tryz.func141, Tryz.ntmps141
    go_wp2
    go_ret
    exact tells_no (fun g => by have := g.lo; omega) (Below.refl _ _)
  by_cases h24 : 24 < h
  · go_enter Tryz.func141, Tryz.ntmps141
    go_wp2
    go_ret
    exact tells_no (fun g => by have := g.hi; omega) (Below.refl _ _)
  go_enter Tryz.func141, Tryz.ntmps141
  go_wp2
  go_loopw [5, 16] (fun bv i wr => ∃ k : Nat, k ≤ F.length ∧ i = .int .i64 k ∧ bv = .int .i64 (prevI F k) ∧ 0 ≤ prevI F k ∧ prevI F k < 24 ∧ FixTo h F k ∧ Below w.heap.size w wr) (fun _ i _ => F.length - (intOf i).toNat)
  case atStart => exact ⟨0, Nat.zero_le _, rfl, rfl, by simp [prevI], by simp [prevI], fixTo_zero _ _, Below.refl _ _⟩
  case round =>
    obtain ⟨k, hk, rfl, rfl, hp0, hp1, hF, hb⟩ := hrel
    have HF := Lib.hid hF; clear hF
    by_cases hlt : k < F.length
    · obtain ⟨b, off, x, rfl, hbB, hx, hc0⟩ := (HS.out.later hB hb).at_ hlt
      have hpn := prev_next hx
      have HX := Lib.hid hx; clear hx
      have HPN := Lib.hid hpn; clear hpn
      generalize hpv : prevI F k = p at *
      have HP := Lib.hid hpv; clear hpv
      by_cases q0 : x ≤ p
      · go_wp2
        go_ret
        exact tells_no (fix_no HX.out (.inl (by rw [HP.out]; exact q0))) hb
      by_cases q1 : h ≤ x
      · go_wp2
        go_ret
        exact tells_no (fix_no HX.out (.inr q1)) hb
      go_wp2
      go_roundw
      case rel => exact ⟨k + 1, by omega, by go_num, by rw [HPN.out], by rw [HPN.out]; omega, by rw [HPN.out]; omega, fixTo_next HF.out HX.out (by rw [HP.out]; omega) (by omega) (by rw [HP.out]; omega), hb⟩
      case measure => simp [intOf]; omega
    · go_wp2
      go_ret
      have hkl : k = F.length := by omega
      subst hkl
      exact tells_yes (fix_done (by omega) (by omega) HF.out) hb
end Go.Proofs.YtjpkpfmpjgeeiaaGreat
namespace Go.Proofs.YtjpkpfmpjgeeiaaGreat
open Go.RowKit
set_option linter.unusedVariables false

/-- what boxesOk asks for -/
def BoxesW (h : Int) (F : List Int) (L : List Bx) : Prop := BoxesTo L L.length ∧ lowAt L L.length = h ∧ wallsTo F L L.length = F.length
theorem boxesW_no {h : Int} {F : List Int} {L : List Bx} {k : Nat} {x : Bx} (hx : L[k]? = some x) (hbad : x.low ≠ lowAt L k ∨ x.size < 1 ∨ h - lowAt L k < x.size ∨ x.par < 0 ∨ 999 < x.par) : ¬ BoxesW h F L := by
  rintro ⟨h1, h2, h3⟩
  have hk : k < L.length := (List.getElem?_eq_some_iff.1 hx).1
  have hb := h1 k x hk hx
  have hs := size_le h1 h2 hx
  have hn := lowAt_succ hx
  unfold BoxAt at hb
  rcases hbad with hh | hh | hh | hh | hh
  · exact hh hb.1
  all_goals omega
theorem walls_le (F : List Int) (L : List Bx) (k : Nat) : wallsTo F L k ≤ k := by
  unfold wallsTo cntIn
  have := List.countP_le_length (p := fun x => F.contains x) (l := (L.take k).map Bx.low)
  simp at this
  simp; omega

set_option maxHeartbeats 1000000 in
theorem boxesI_any (w : World) (B : Nat) (A A' : Option Addr) (c c' : Nat) (h : Int) (F : List Int) (L : List Bx) (hf : F.length ≤ maxLen) (hl : L.length ≤ maxLen) (hB : B ≤ w.heap.size) (hS : IL w B A F) (hT : XL w B A' L) (h1 : 1 ≤ h) (h24 : h ≤ 24) :
    Calls Tryz.prog 142 #[.agg #[.int .i64 h, .slice A F.length c, .slice A' L.length c']] w (Tells (BoxesW h F L) w) := by
  have hl' := hl
  unfold maxLen at hl
  have HS := Lib.hid hS; clear hS
  have HT := Lib.hid hT; clear hT
  go_enter Tryz.func142, Tryz.ntmps142
  go_wp2
  generalize hW0 : w.alloc (.cells #[.int .i64 h, .slice A F.length c, .slice A' L.length c'] 123) = w0 at *
  have hb0 : Below w.heap.size w w0 := by rw [← hW0]; exact balloc _ _
  have hc : Has w0 w.heap.size 123 #[.int .i64 h, .slice A F.length c, .slice A' L.length c'] := by rw [← hW0]; exact has_new _ _ _
  clear hW0
  have HC := Lib.hid hc; clear hc
  go_loopw [3, 4, 10] (fun lv fv i wr => ∃ (k : Nat), k ≤ L.length ∧ i = .int .i64 k ∧ lv = .int .i64 (lowAt L k) ∧ fv = .int .i64 (wallsTo F L k) ∧ 0 ≤ lowAt L k ∧ lowAt L k ≤ h ∧ BoxesTo L k ∧ Below w0.heap.size w0 wr) (fun _ _ i _ => L.length - (intOf i).toNat)
  case atStart => exact ⟨0, Nat.zero_le _, rfl, rfl, rfl, by simp [lowAt], by simp [lowAt]; omega, fun k x hk => absurd hk (by omega), Below.refl _ _⟩
  case round =>
    obtain ⟨k, hk, rfl, rfl, rfl, hl0, hlh, hbt, hb⟩ := hrel
    have HBT := Lib.hid hbt; clear hbt
    have hsz := hb.size
    have hsz0 := hb0.size
    have hcw := has_call HC.out hb
    have e0 := has_cell hcw 0 rfl
    have e1 := has_cell hcw 1 rfl
    have hcb := has_lt hcw
    have HCW := Lib.hid hcw; clear hcw
    have hba : Below w.heap.size w wr := bthen hb0 hb
    have hwl := walls_le F L k
    by_cases hlt : k < L.length
    · obtain ⟨b, off, x, rfl, hbB, hx, hc0, hc1, hc2, hc3⟩ := (HT.out.later hB hba).at_ hlt
      have hls := lowAt_succ hx
      have hws := wallsTo_succ (F := F) hx
      obtain ⟨x0, x1, x2, x3⟩ := x
      dsimp only at hc0 hc1 hc2 hc3 hls hws
      have HX := Lib.hid hx; clear hx
      have HLS := Lib.hid hls; clear hls
      have HWS := Lib.hid hws; clear hws
      generalize hat : lowAt L k = at' at *
      have HAT := Lib.hid hat; clear hat
      generalize hwt : wallsTo F L k = wt at *
      have HWT := Lib.hid hwt; clear hwt
      have hbw : b < wr.heap.size := by have := hba.size; omega
      by_cases q0 : x0 = at'
      · obtain rfl : at' = x0 := q0.symm
        have n0 : (at' != at') = false := by simp
        by_cases q1 : x1 < 1
        · go_wp2
          go_ret
          exact tells_no (boxesW_no HX.out (.inr (.inl q1))) (hba.alloc hba.size _)
        by_cases q2 : h - at' < x1
        · go_wp2
          go_ret
          exact tells_no (boxesW_no HX.out (.inr (.inr (.inl (by rw [HAT.out]; exact q2))))) (hba.alloc hba.size _)
        by_cases q3 : x2 < 0
        · go_wp2
          go_ret
          exact tells_no (boxesW_no HX.out (.inr (.inr (.inr (.inl q3))))) (hba.alloc hba.size _)
        by_cases q4 : 999 < x2
        · go_wp2
          go_ret
          exact tells_no (boxesW_no HX.out (.inr (.inr (.inr (.inr q4))))) (hba.alloc hba.size _)
        go_wp2_with fail
        generalize hW1 : (wr.alloc (.cells #[.int .i64 at', .int .i64 x1, .int .i64 x2, .bool x3] 125)) = w1
        have bx : Below wr.heap.size wr w1 := by rw [← hW1]; exact balloc _ _
        have kx : Has w1 wr.heap.size 125 #[.int .i64 at', .int .i64 x1, .int .i64 x2, .bool x3] := by rw [← hW1]; exact has_new _ _ _
        clear hW1
        have hb1 := bthen hba bx
        refine (contains_any w1 B A c F at' hf (by have := hb1.size; omega) (HS.out.later hB hb1)).mono ?_
        rintro e w2 ⟨rfl, hb2⟩
        have m1 := has_call kx hb2
        have g1 := has_cell m1 1 rfl
        have hb3 := bthen hb1 hb2
        have hb4 : Below w0.heap.size w0 w2 := hb.trans ((bx.trans (hb2.mono bx.size)).mono hsz)
        cases hct : F.contains at'
        · have HCT := Lib.hid hct; clear hct
          go_wp2
          go_roundw
          case rel => exact ⟨k + 1, by omega, by go_num, by rw [HLS.out], by rw [HWS.out, HCT.out]; simp, by rw [HLS.out]; omega, by rw [HLS.out]; omega, boxesTo_succ HBT.out HX.out ⟨HAT.out.symm, by show 1 ≤ x1; omega, by show 0 ≤ x2; omega, by show x2 ≤ 999; omega⟩, hb4⟩
          case measure => simp [intOf]; omega
        · have HCT := Lib.hid hct; clear hct
          go_wp2
          go_roundw
          case rel => exact ⟨k + 1, by omega, by go_num, by rw [HLS.out], by rw [HWS.out, HCT.out]; simp, by rw [HLS.out]; omega, by rw [HLS.out]; omega, boxesTo_succ HBT.out HX.out ⟨HAT.out.symm, by show 1 ≤ x1; omega, by show 0 ≤ x2; omega, by show x2 ≤ 999; omega⟩, hb4⟩
          case measure => simp [intOf]; omega
      · have n0 : (x0 != at') = true := by simpa using q0
        go_wp2
        go_ret
        exact tells_no (boxesW_no HX.out (.inl (by rw [HAT.out]; exact q0))) (hba.alloc hba.size _)
    · have hkl : k = L.length := by omega
      subst hkl
      generalize hat : lowAt L L.length = at' at *
      generalize hwt : wallsTo F L L.length = wt at *
      have HAT := Lib.hid hat; clear hat
      have HWT := Lib.hid hwt; clear hwt
      by_cases q0 : at' = h
      · have n0 : (at' == h) = true := by simpa using q0
        by_cases q1 : wt = F.length
        · have n1 : ((wt : Int) == (F.length : Int)) = true := by simp [q1]
          go_wp2
          go_ret
          exact tells_yes ⟨HBT.out, by rw [HAT.out, q0], by rw [HWT.out, q1]⟩ hba
        · have n1 : ((wt : Int) == (F.length : Int)) = false := by simp; omega
          go_wp2
          go_ret
          exact tells_no (fun g => q1 (by rw [← HWT.out]; exact g.2.2)) hba
      · have n0 : (at' == h) = false := by simpa using q0
        go_wp2
        go_ret
        exact tells_no (fun g => q0 (by rw [← HAT.out]; exact g.2.1)) hba
end Go.Proofs.YtjpkpfmpjgeeiaaGreat
