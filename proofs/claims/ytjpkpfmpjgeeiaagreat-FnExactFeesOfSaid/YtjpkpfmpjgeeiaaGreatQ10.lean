
/- Chapter 2: the laws' helpers over banks: sizes, copies, marks. -/
import Derived.Test.YtjpkpfmpjgeeiaaGreatQ09
import Derived.Test.YtjpkpfmpjgeeiaaGreatQ01
namespace Go.Proofs.YtjpkpfmpjgeeiaaGreat
open Go.RowKit
set_option linter.unusedVariables false

def totK (l : List Cl) : Nat := (l.map fun x => x.F.length + x.L.length).sum
theorem totK_succ {l : List Cl} {k : Nat} {x : Cl} (h : l[k]? = some x) : totK (l.take (k + 1)) = totK (l.take k) + (x.F.length + x.L.length) := by
  unfold totK; rw [List.take_add_one, h]; simp
theorem totK_mem : ∀ {l : List Cl} {x : Cl}, x ∈ l → x.F.length + x.L.length ≤ totK l
  | y :: r, x, h => by
    unfold totK
    rw [List.map_cons, List.sum_cons]
    rcases List.mem_cons.1 h with e | e
    · subst e; omega
    · have := totK_mem e; unfold totK at this; omega
theorem totK_cont {l l' : List Cl} (h : l'.map cont = l.map cont) : totK l' = totK l := by
  have e : ∀ l : List Cl, totK l = ((l.map cont).map fun t => t.2.1.length + t.2.2.length).sum := fun l => by unfold totK; rw [List.map_map]; rfl
  rw [e, e, h]
theorem len_cont {l l' : List Cl} (h : l'.map cont = l.map cont) : l'.length = l.length := by have := congrArg List.length h; simpa using this
def BankSz (l : List Cl) (r : Int) : Prop := r = -1 ∨ (0 ≤ r ∧ l.length + totK l ≤ 1048576)
theorem small_tot {l : List Cl} (h : totK l ≤ 1048576) : SmallK l := fun x hx => by have := totK_mem hx; omega
theorem OI.setlow {w : World} {lo hi : Nat} {e : TypeId} {A : Option Addr} {xs : List Value} (h : OI w lo hi e A xs) {p : Addr} (hp : p.block < lo) (v : Value) : OI (w.setCell p v) lo hi e A xs := by
  rcases h with h | ⟨g, cur, rfl, q1, q2, hh, hc⟩
  · exact .inl h
  · exact .inr ⟨g, cur, rfl, q1, q2, has_far hh (by omega) v, hc⟩
theorem RowsSep.setlow {w : World} {lo hi : Nat} {l : List Cl} {f : Nat → Nat × Nat} (h : RowsSep w lo hi l f) {p : Addr} (hp : p.block < lo) (v : Value) : RowsSep (w.setCell p v) lo hi l f :=
  ⟨fun k x hx => by obtain ⟨h1, h2, h3, h4, h5⟩ := h.row k x hx; exact ⟨h1, h2, h3, h4.setlow (by omega) v, h5.setlow (by omega) v⟩, h.dis⟩

set_option maxRecDepth 100000 in
set_option maxHeartbeats 2000000 in
theorem toBank_any (w : World) (B : Nat) (A : Option Addr) (c : Nat) (l : List Cl) (hl : l.length ≤ 1048576) (hsm : SmallK l) (hB : B ≤ w.heap.size) (hS : KL w B A l) (hV : ∀ x ∈ l, CV w B x) :
    Calls Tryz.prog 70 #[.slice A l.length c] w fun e w' => ∃ (A' : Option Addr) (l' : List Cl), e = .returned (.slice A' l'.length l.length) ∧ l'.map cont = l.map cont ∧ BankAt w' w.heap.size w'.heap.size A' l' ∧ Below w.heap.size w w' := by
  have hmk : ∀ W : World, (Instr.makeSlice 85 (.int .i64 (l.length : Int)) (.int .i64 (l.length : Int))).run Tryz.prog W = .ok (.slice (some ⟨W.heap.size, 0, none⟩) l.length l.length) (W.alloc (.cells (madeCells #[.int .i64 0, .slice none 0 0, .slice none 0 0] (l.length * 3)) 123)) := by
    intro W
    obtain ⟨i, hi, hz0, hz1, hz2⟩ := info_parts colInfo
    have := run_make (P := Tryz.prog) W 85 123 i _ Tryz.underlying85 hi hz0 .i64 .i64 (l.length : Int) (l.length : Int) (by omega) (by omega) (by rw [hz2]; omega) (by omega)
    simpa [hz1, Value.cells] using this
  have HS := Lib.hid hS; have HV := Lib.hid hV; have HSM := Lib.hid hsm; clear hS hV hsm
  go_enter Tryz.func70, Tryz.ntmps70
  go_wp2
  go_loopw [4] (fun i wr => ∃ (k : Nat) (cs : Array Value) (l' : List Cl), k ≤ l.length ∧ i = .int .i64 k ∧ l'.length = k ∧ l'.map cont = (l.take k).map cont ∧ CopiedK wr w.heap.size cs l' l.length ∧ (∃ f, RowsSep wr (w.heap.size + 1) wr.heap.size l' f) ∧ Below w.heap.size w wr) (fun i _ => l.length - (intOf i).toNat)
  case atStart => exact ⟨0, _, [], Nat.zero_le _, rfl, rfl, rfl, ⟨has_new _ _ _, by simp [size_madeCells], fun j x hj => by simp at hj⟩, ⟨fun _ => (0, 0), ⟨fun k x h => by simp at h, fun j k _ hk => by simp at hk⟩⟩, balloc _ _⟩
  case round =>
    obtain ⟨k, cs, l', hk, rfl, hlk, hct, hcp, hro, hb⟩ := hrel
    have HC := Lib.hid hcp; have HCT := Lib.hid hct; have HRO := Lib.hid hro; clear hcp hct hro
    clear hmk
    have hsz := hb.size
    by_cases hlt : k < l.length
    · obtain ⟨b, off, x, rfl, hbB, hx, hc0, hc1, hc2⟩ := (HS.out.later hB hb).at_ hlt
      have hv := (HV.out x (List.mem_of_getElem? hx)).later hB hb
      have hs := HSM.out x (List.mem_of_getElem? hx)
      obtain ⟨z, AF, F, cF, AB, L, cB⟩ := x
      dsimp only at hc0 hc1 hc2 hs
      have HX := Lib.hid hx; have HVX := Lib.hid hv; have HSX := Lib.hid hs; clear hx hv hs
      have HLK := Lib.hid hlk; clear hlk
      go_wp2_with fail
      refine (toColumn_any wr B AF AB cF cB z F L HSX.out.1 HSX.out.2 (by omega) HVX.out.f HVX.out.b).mono ?_
      rintro e w1 ⟨A2, A3, n2, n3, rfl, ho2, ho3, hb1⟩
      have hz1 := hb1.size
      have hC1 : CopiedK w1 w.heap.size cs l' l.length := ⟨has_call HC.out.heap hb1, HC.out.size, HC.out.got⟩
      have hgl : w.heap.size < wr.heap.size := has_lt HC.out.heap
      have hst := hC1.step (by rw [HLK.out]; exact hlt) ⟨z, A2, F, n2, A3, L, n3⟩
      rw [HLK.out] at hst
      dsimp only at hst
      obtain ⟨f, hf⟩ := HRO.out
      have hsep := ((hf.call hb1).wider (Nat.le_refl _) (Nat.le_refl _)).snoc (x := ⟨z, A2, F, n2, A3, L, n3⟩) (a := wr.heap.size) (b := w1.heap.size) (Nat.le_refl _) hz1 (by omega) (OI.of_or ho2) (OI.of_or ho3)
      have hsep2 := ((hsep.setlow (p := ⟨w.heap.size, k * 3, none⟩) (Nat.lt_succ_self _) (.int .i64 z)).setlow (p := ⟨w.heap.size, k * 3 + 1, none⟩) (Nat.lt_succ_self _) (.slice A2 F.length n2)).setlow (p := ⟨w.heap.size, k * 3 + 2, none⟩) (Nat.lt_succ_self _) (.slice A3 L.length n3)
      obtain ⟨u0, hu0⟩ := hC1.cellAt (j := k * 3) (by omega)
      obtain ⟨u1, hu1⟩ := hC1.cellAt (j := k * 3 + 1) (by omega)
      obtain ⟨u2, hu2⟩ := hC1.cellAt (j := k * 3 + 2) (by omega)
      have hf0 := has_free hC1.heap (k * 3)
      have hf1 := has_free hC1.heap (k * 3 + 1)
      have hf2 := has_free hC1.heap (k * 3 + 2)
      have HST := Lib.hid hst; have HR1 := Lib.hid hsep2; clear hst hsep hsep2 hC1 ho2 ho3 hf
      go_wp2
      go_roundw
      case rel => exact ⟨k + 1, _, l' ++ [⟨z, A2, F, n2, A3, L, n3⟩], by omega, by go_num, by simp [HLK.out], cont_snoc HCT.out HX.out rfl, HST.out, ⟨_, HR1.out.wider (Nat.le_refl _) (by simp)⟩, (((hb.trans (hb1.mono hsz)).setCell (Nat.le_refl _) _).setCell (Nat.le_refl _) _).setCell (Nat.le_refl _) _⟩
      case measure => simp [intOf]; omega
    · go_wp2
      go_ret
      have hkl : k = l.length := by omega
      subst hkl
      have hct := HCT.out
      rw [List.take_length] at hct
      obtain ⟨f, hf⟩ := HRO.out
      exact ⟨some ⟨w.heap.size, 0, none⟩, l', by simp [hlk], hct, ⟨copiedK_oi HC.out (Nat.le_refl _) (has_lt HC.out.heap), f, hf.wider (Nat.le_succ _) (Nat.le_refl _)⟩, hb⟩

end Go.Proofs.YtjpkpfmpjgeeiaaGreat
namespace Go.Proofs.YtjpkpfmpjgeeiaaGreat
open Go.RowKit
set_option linter.unusedVariables false

def chainB : Int → List (Int × Int) → Int → Bool
  | _, [], _ => true
  | p, x :: r, most => if 0 ≤ x.1 then if x.1 < x.2 then if x.2 ≤ most then if p < x.1 then chainB x.2 r most else false else false else false else false
def prevOf (l : List (Int × Int)) : Nat → Int
  | 0 => -1
  | k + 1 => ((l[k]?).getD (0, 0)).2
def spansB (l : List (Int × Int)) (most : Int) : Bool := if l.length ≤ 20 then chainB (-1) l most else false
theorem chainB_drop (l : List (Int × Int)) (most p : Int) (k : Nat) (x : Int × Int) (hk : l[k]? = some x) : chainB p (l.drop k) most = if 0 ≤ x.1 then if x.1 < x.2 then if x.2 ≤ most then if p < x.1 then chainB x.2 (l.drop (k+1)) most else false else false else false else false := by
  have hlt : k < l.length := by
    rcases Nat.lt_or_ge k l.length with hh | hh
    · exact hh
    · rw [List.getElem?_eq_none hh] at hk; cases hk
  rw [List.drop_eq_getElem_cons hlt]
  have : l[k] = x := by rw [List.getElem?_eq_getElem hlt] at hk; injection hk
  rw [this]; rfl
theorem spans_long (l : List (Int × Int)) (most : Int) (h : 20 < l.length) : spansB l most = false := by
  unfold spansB; rw [if_neg (by omega)]
theorem spans_start (l : List (Int × Int)) (most : Int) (h : ¬ 20 < l.length) : spansB l most = chainB (prevOf l 0) (l.drop 0) most := by
  unfold spansB; rw [if_pos (by omega)]; rfl
theorem spans_bad (l : List (Int × Int)) (most : Int) (k : Nat) (x : Int × Int) (hk : l[k]? = some x) (h : spansB l most = chainB (prevOf l k) (l.drop k) most)
    (hbad : x.1 < 0 ∨ x.2 ≤ x.1 ∨ most < x.2 ∨ x.1 ≤ prevOf l k) : spansB l most = false := by
  rw [h, chainB_drop l most _ k x hk]
  rcases hbad with hb | hb | hb | hb
  · rw [if_neg (by omega)]
  · by_cases h1 : 0 ≤ x.1
    · rw [if_pos h1, if_neg (by omega)]
    · rw [if_neg h1]
  · by_cases h1 : 0 ≤ x.1
    · by_cases h2 : x.1 < x.2
      · rw [if_pos h1, if_pos h2, if_neg (by omega)]
      · rw [if_pos h1, if_neg h2]
    · rw [if_neg h1]
  · by_cases h1 : 0 ≤ x.1
    · by_cases h2 : x.1 < x.2
      · by_cases h3 : x.2 ≤ most
        · rw [if_pos h1, if_pos h2, if_pos h3, if_neg (by omega)]
        · rw [if_pos h1, if_pos h2, if_neg h3]
      · rw [if_pos h1, if_neg h2]
    · rw [if_neg h1]
theorem spans_good (l : List (Int × Int)) (most : Int) (k : Nat) (x : Int × Int) (hk : l[k]? = some x) (h : spansB l most = chainB (prevOf l k) (l.drop k) most)
    (h1 : 0 ≤ x.1) (h2 : x.1 < x.2) (h3 : x.2 ≤ most) (h4 : prevOf l k < x.1) : spansB l most = chainB (prevOf l (k+1)) (l.drop (k+1)) most := by
  rw [h, chainB_drop l most _ k x hk, if_pos h1, if_pos h2, if_pos h3, if_pos h4]
  simp [prevOf, hk]
theorem spans_end (l : List (Int × Int)) (most : Int) (h : spansB l most = chainB (prevOf l l.length) (l.drop l.length) most) : spansB l most = true := by
  rw [h, List.drop_length]; rfl
theorem prev_at (l : List (Int × Int)) (k : Nat) (x : Int × Int) (h : l[k]? = some x) : prevOf l (k+1) = x.2 := by simp [prevOf, h]

set_option maxHeartbeats 1000000 in
theorem spansI_any (w : World) (B : Nat) (A : Option Addr) (c : Nat) (l : List (Int × Int)) (h : Int) (hl : l.length ≤ maxLen) (hB : B ≤ w.heap.size) (hS : SL w B A l) :
    Calls Tryz.prog 113 #[.slice A l.length c, .int .i64 h] w fun e w' => e = .returned (.bool (spansB l h)) ∧ Below w.heap.size w w' := by
  unfold maxLen at hl
  by_cases h20 : 20 < l.length
  · go_enter Tryz.func113, Tryz.ntmps113
    go_wp2
    go_ret
    exact ⟨ret_bool (spans_long l h h20).symm, Below.refl _ _⟩
  go_enter Tryz.func113, Tryz.ntmps113
  go_wp2
  go_loopw [12] (fun i wr => ∃ k : Nat, k ≤ l.length ∧ i = .int .i64 k ∧ spansB l h = chainB (prevOf l k) (l.drop k) h ∧ Below w.heap.size w wr) (fun i _ => l.length - (intOf i).toNat)
  case atStart => exact ⟨0, Nat.zero_le _, rfl, spans_start l h h20, Below.refl _ _⟩
  case round =>
    obtain ⟨k, hk, rfl, hno, hb⟩ := hrel
    have Hno := Lib.hid hno; clear hno
    by_cases hlt : k < l.length
    · have HSk := (hS.below (hb.mono hB))
      obtain ⟨b, off, x0, x1, rfl, hbB, hx, hc0, hc1⟩ := HSk.at_ hlt
      have Hx := Lib.hid hx; clear hx
      have hsz := hb.size
      by_cases h0 : x0 < 0
      · have HS := Lib.hid hS; clear hS
        have HSk' := Lib.hid HSk; clear HSk
        go_wp2
        go_ret
        exact ⟨ret_bool (spans_bad l h k _ Hx.out Hno.out (.inl h0)).symm, hb.alloc hsz _⟩
      by_cases h1 : x1 ≤ x0
      · have HS := Lib.hid hS; clear hS
        have HSk' := Lib.hid HSk; clear HSk
        go_wp2
        go_ret
        exact ⟨ret_bool (spans_bad l h k _ Hx.out Hno.out (.inr (.inl h1))).symm, hb.alloc hsz _⟩
      by_cases h2 : h < x1
      · have HS := Lib.hid hS; clear hS
        have HSk' := Lib.hid HSk; clear HSk
        go_wp2
        go_ret
        exact ⟨ret_bool (spans_bad l h k _ Hx.out Hno.out (.inr (.inr (.inl h2)))).symm, hb.alloc hsz _⟩
      rcases k with _ | m
      · have HS := Lib.hid hS; clear hS
        have HSk' := Lib.hid HSk; clear HSk
        have hc0' : wr.cell? ⟨b, off, none⟩ = some (.int .i64 x0) := by simpa using hc0
        have hc1' : wr.cell? ⟨b, off + 1, none⟩ = some (.int .i64 x1) := by simpa using hc1
        clear hc0 hc1
        go_wp2
        go_quiet (fail)
        go_wp2
        go_roundw
        case rel => exact ⟨1, by omega, by go_num, spans_good l h 0 _ Hx.out Hno.out (by omega) (by omega) (by omega) (by simp [prevOf]; omega), below_drewN (hb.alloc hsz _) _⟩
        case measure => simp [intOf]; omega
      · obtain ⟨b', off', y0, y1, hA', hbB', hy, hd0, hd1⟩ := HSk.at_ (k := m) (by omega)
        obtain ⟨rfl, rfl⟩ : b = b' ∧ off = off' := by injection hA' with hA'; injection hA' with e1 e2; exact ⟨e1, e2⟩
        have Hy := Lib.hid hy; clear hy hA'
        have hbw : b < wr.heap.size := by omega
        have HS := Lib.hid hS; clear hS
        have HSk' := Lib.hid HSk; clear HSk
        by_cases h3 : x0 ≤ y1
        · go_wp2
          go_quiet (fail)
          go_wp2
          go_ret
          exact ⟨ret_bool (spans_bad l h (m+1) _ Hx.out Hno.out (.inr (.inr (.inr (by rw [prev_at l m _ Hy.out]; exact h3))))).symm, below_drewN (hb.alloc hsz _) _⟩
        · go_wp2
          go_quiet (fail)
          go_wp2
          go_roundw
          case rel => exact ⟨m + 1 + 1, by omega, by go_num, spans_good l h (m+1) _ Hx.out Hno.out (by omega) (by omega) (by omega) (by rw [prev_at l m _ Hy.out]; omega), below_drewN (hb.alloc hsz _) _⟩
          case measure => simp [intOf]; omega
    · go_wp2
      go_ret
      have hkl : k = l.length := by omega
      subst hkl
      exact ⟨ret_bool (spans_end l h Hno.out).symm, hb⟩
end Go.Proofs.YtjpkpfmpjgeeiaaGreat
namespace Go.Proofs.YtjpkpfmpjgeeiaaGreat
open Go.RowKit
set_option linter.unusedVariables false
set_option maxRecDepth 100000
set_option maxHeartbeats 1000000 in
theorem spansS_any (w : World) (B : Nat) (A : Option Addr) (c : Nat) (l : List (Int × Int)) (h : Int) (hl : l.length ≤ maxLen) (hB : B ≤ w.heap.size) (hS : SL w B A l) :
    Calls Tryz.prog 104 #[.slice A l.length c, .int .i64 h] w fun e w' => e = .returned (.bool (spansB l h)) ∧ Below w.heap.size w w' := by
  unfold maxLen at hl
  by_cases h20 : 20 < l.length
  · go_enter Tryz.func104, Tryz.ntmps104
    go_wp2
    go_ret
    exact ⟨ret_bool (spans_long l h h20).symm, Below.refl _ _⟩
  go_enter Tryz.func104, Tryz.ntmps104
  go_wp2
  go_loopw [5] (fun i wr => ∃ k : Nat, k ≤ l.length ∧ i = .int .i64 k ∧ spansB l h = chainB (prevOf l k) (l.drop k) h ∧ Below w.heap.size w wr) (fun i _ => l.length - (intOf i).toNat)
  case atStart => exact ⟨0, Nat.zero_le _, rfl, spans_start l h h20, Below.refl _ _⟩
  case round =>
    obtain ⟨k, hk, rfl, hno, hb⟩ := hrel
    have Hno := Lib.hid hno; clear hno
    by_cases hlt : k < l.length
    · have HSk := (hS.below (hb.mono hB))
      obtain ⟨b, off, x0, x1, rfl, hbB, hx, hc0, hc1⟩ := HSk.at_ hlt
      have Hx := Lib.hid hx; clear hx
      have hsz := hb.size
      rcases k with _ | m
      · have HS := Lib.hid hS; clear hS
        have HSk' := Lib.hid HSk; clear HSk
        have hc0' : wr.cell? ⟨b, off, none⟩ = some (.int .i64 x0) := by simpa using hc0
        have hc1' : wr.cell? ⟨b, off + 1, none⟩ = some (.int .i64 x1) := by simpa using hc1
        clear hc0 hc1
        by_cases h0 : x0 < 0
        · go_wp2
          go_big_quiet (fail)
          go_wp2
          go_ret
          exact ⟨ret_bool (spans_bad l h _ _ Hx.out Hno.out (.inl h0)).symm, below_drewN (hb.alloc hsz _) _⟩
        have d0 : decide (x0 < 0) = false := by simpa using h0
        by_cases h1 : x1 ≤ x0
        · go_wp2
          go_big_quiet (fail)
          go_wp2
          go_ret
          exact ⟨ret_bool (spans_bad l h _ _ Hx.out Hno.out (.inr (.inl h1))).symm, below_drewN (hb.alloc hsz _) _⟩
        have d1 : decide (x1 ≤ x0) = false := by simpa using h1
        by_cases h2 : h < x1
        · go_wp2
          go_big_quiet (fail)
          go_wp2
          go_ret
          exact ⟨ret_bool (spans_bad l h _ _ Hx.out Hno.out (.inr (.inr (.inl h2)))).symm, below_drewN (hb.alloc hsz _) _⟩
        have d2 : decide (h < x1) = false := by simpa using h2
        go_wp2
        go_big_quiet (fail)
        go_wp2
        go_roundw
        case rel => exact ⟨1, by omega, by go_num, spans_good l h 0 _ Hx.out Hno.out (by omega) (by omega) (by omega) (by simp [prevOf]; omega), below_drewN (hb.alloc hsz _) _⟩
        case measure => simp [intOf]; omega
      · obtain ⟨b', off', y0, y1, hA', hbB', hy, hd0, hd1⟩ := HSk.at_ (k := m) (by omega)
        obtain ⟨rfl, rfl⟩ : b = b' ∧ off = off' := by injection hA' with hA'; injection hA' with e1 e2; exact ⟨e1, e2⟩
        have Hy := Lib.hid hy; clear hy hA'
        have hbw : b < wr.heap.size := by omega
        have HS := Lib.hid hS; clear hS
        have HSk' := Lib.hid HSk; clear HSk
        by_cases h0 : x0 < 0
        · go_wp2
          go_big_quiet (fail)
          go_wp2
          go_ret
          exact ⟨ret_bool (spans_bad l h _ _ Hx.out Hno.out (.inl h0)).symm, below_drewN (hb.alloc hsz _) _⟩
        have d0 : decide (x0 < 0) = false := by simpa using h0
        by_cases h1 : x1 ≤ x0
        · go_wp2
          go_big_quiet (fail)
          go_wp2
          go_ret
          exact ⟨ret_bool (spans_bad l h _ _ Hx.out Hno.out (.inr (.inl h1))).symm, below_drewN (hb.alloc hsz _) _⟩
        have d1 : decide (x1 ≤ x0) = false := by simpa using h1
        by_cases h2 : h < x1
        · go_wp2
          go_big_quiet (fail)
          go_wp2
          go_ret
          exact ⟨ret_bool (spans_bad l h _ _ Hx.out Hno.out (.inr (.inr (.inl h2)))).symm, below_drewN (hb.alloc hsz _) _⟩
        have d2 : decide (h < x1) = false := by simpa using h2
        by_cases h3 : x0 ≤ y1
        · go_wp2
          have wk : IntKind.i64.wrap (m : Int) = m := IntWalk.i64_in _ (by omega)
          go_big_quiet (fail)
          clear wk
          go_wp2
          go_ret
          exact ⟨ret_bool (spans_bad l h (m+1) _ Hx.out Hno.out (.inr (.inr (.inr (by rw [prev_at l m _ Hy.out]; exact h3))))).symm, below_drewN (hb.alloc hsz _) _⟩
        · go_wp2
          have wk : IntKind.i64.wrap (m : Int) = m := IntWalk.i64_in _ (by omega)
          go_big_quiet (fail)
          clear wk
          go_wp2
          go_roundw
          case rel => exact ⟨m + 1 + 1, by omega, by go_num, spans_good l h (m+1) _ Hx.out Hno.out (by omega) (by omega) (by omega) (by rw [prev_at l m _ Hy.out]; omega), below_drewN (hb.alloc hsz _) _⟩
          case measure => simp [intOf]; omega
    · go_wp2
      go_ret
      have hkl : k = l.length := by omega
      subst hkl
      exact ⟨ret_bool (spans_end l h Hno.out).symm, hb⟩
end Go.Proofs.YtjpkpfmpjgeeiaaGreat
