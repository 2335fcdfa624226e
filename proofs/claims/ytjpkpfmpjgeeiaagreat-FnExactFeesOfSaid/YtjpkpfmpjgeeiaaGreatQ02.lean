
/- Chapter 2: rows in blocks of their own, and what marking one leaves of the others. -/
import Derived.Test.YtjpkpfmpjgeeiaaGreatQ01
import Derived.Laws.MakeOwn
import Derived.Laws.Rows
import Derived.Laws.NewBlocks
import Derived.StillTailTactics
namespace Go.Proofs.YtjpkpfmpjgeeiaaGreat
open Go.RowKit
set_option linter.unusedVariables false

def intV (l : List Int) : List Value := l.map (Value.int .i64)
def boxC (x : Bx) : List Value := [.int .i64 x.low, .int .i64 x.size, .int .i64 x.par, .bool x.jam]
def boxV (L : List Bx) : List Value := L.flatMap boxC
theorem intV_at {l : List Int} {k : Nat} {x : Int} (h : l[k]? = some x) : (intV l)[k]? = some (.int .i64 x) := by simp [intV, h]
theorem intV_len (l : List Int) : (intV l).length = l.length := by simp [intV]
theorem boxV_len (l : List Bx) : (boxV l).length = 4 * l.length := by
  induction l with
  | nil => rfl
  | cons a r ih => simp [boxV, boxC] at ih ⊢; omega
theorem boxV_at : ∀ {l : List Bx} {k : Nat} {x : Bx}, l[k]? = some x → (boxV l)[k * 4]? = some (.int .i64 x.low) ∧ (boxV l)[k * 4 + 1]? = some (.int .i64 x.size) ∧ (boxV l)[k * 4 + 2]? = some (.int .i64 x.par) ∧ (boxV l)[k * 4 + 3]? = some (.bool x.jam)
  | [], k, u, h => by simp at h
  | a :: r, 0, u, h => by
    simp at h; subst h
    exact ⟨rfl, rfl, rfl, rfl⟩
  | a :: r, k + 1, u, h => by
    have ih := boxV_at (l := r) (k := k) (x := u) (by simpa using h)
    have e : boxV (a :: r) = .int .i64 a.low :: .int .i64 a.size :: .int .i64 a.par :: .bool a.jam :: boxV r := rfl
    rw [e, show (k + 1) * 4 = k * 4 + 1 + 1 + 1 + 1 by omega]
    exact ⟨by simpa using ih.1, by simpa using ih.2.1, by simpa using ih.2.2.1, by simpa using ih.2.2.2⟩

/-- the row lies in a block of its own, at or behind base -/
def OR (w : World) (base : Nat) (e : TypeId) (A : Option Addr) (xs : List Value) : Prop :=
  xs = [] ∨ ∃ g cur, A = some ⟨g, 0, none⟩ ∧ base ≤ g ∧ Has w g e cur ∧ ∀ (j : Nat) (u : Value), xs[j]? = some u → cur[j]? = some u
section
variable {w w' : World} {base B : Nat} {e e' : TypeId} {A A' : Option Addr} {xs ys : List Value}
theorem OR.kept (h : OR w base e A xs) (hk : ∀ g, base ≤ g → g < w.heap.size → w'.heap[g]? = w.heap[g]?) : OR w' base e A xs := by
  rcases h with h | ⟨g, cur, rfl, hb, hh, hc⟩
  · exact .inl h
  · exact .inr ⟨g, cur, rfl, hb, (hk g hb (has_lt hh)).trans hh, hc⟩
theorem OR.below (h : OR w base e A xs) (hb : Below w.heap.size w w') : OR w' base e A xs := h.kept fun g _ hg => hb.block g hg
theorem OR.more (h : OR w base e A xs) (hB : B ≤ base) : OR w B e A xs := by
  rcases h with h | ⟨g, cur, rfl, hb, hh, hc⟩
  · exact .inl h
  · exact .inr ⟨g, cur, rfl, by omega, hh, hc⟩
theorem OR.il {l : List Int} (h : OR w base e A (intV l)) : IL w w.heap.size A l := by
  rcases h with h | ⟨g, cur, rfl, hb, hh, hc⟩
  · exact .inl (by simpa [intV] using h)
  · exact .inr ⟨g, 0, rfl, has_lt hh, fun k x hx => by rw [Nat.zero_add]; exact has_cell hh k (hc _ _ (intV_at hx))⟩
theorem OR.xl {l : List Bx} (h : OR w base e A (boxV l)) : XL w w.heap.size A l := by
  rcases h with h | ⟨g, cur, rfl, hb, hh, hc⟩
  · refine .inl ?_
    have := congrArg List.length h
    rw [boxV_len] at this
    exact List.eq_nil_of_length_eq_zero (by simp only [List.length_nil] at this; omega)
  · refine .inr ⟨g, 0, rfl, has_lt hh, fun k x hx => ?_⟩
    have := boxV_at hx
    rw [Nat.zero_add]
    exact ⟨has_cell hh _ (hc _ _ this.1), has_cell hh _ (hc _ _ this.2.1), has_cell hh _ (hc _ _ this.2.2.1), has_cell hh _ (hc _ _ this.2.2.2)⟩
/-- only the row's own block has changed -/
def Marks (w : World) (base : Nat) (e : TypeId) (A : Option Addr) (xs : List Value) (w' : World) : Prop :=
  (xs = [] ∧ w' = w) ∨ (xs ≠ [] ∧ ∃ g cur, A = some ⟨g, 0, none⟩ ∧ base ≤ g ∧ Has w g e cur ∧ Only w g w')
theorem Marks.below (h : Marks w base e A xs w') (hB : base ≤ w.heap.size) : Below base w w' := by
  rcases h with ⟨_, rfl⟩ | ⟨_, g, cur, rfl, hb, hh, ho⟩
  · exact Below.refl _ _
  · exact only_below ho hB hb
/-- rows of another kind stay -/
theorem OR.other (h : OR w base e A xs) (hm : Marks w B e' A' ys w') (hne : e ≠ e') : OR w' base e A xs := by
  rcases hm with ⟨_, rfl⟩ | ⟨_, g', cur', rfl, hb', hh', ho⟩
  · exact h
  · rcases h with h | ⟨g, cur, rfl, hb, hh, hc⟩
    · exact .inl h
    · have hgg : g ≠ g' := fun eq => by
        subst eq
        have := hh.symm.trans hh'
        injection this with this; injection this with _ this _
        exact hne this
      exact .inr ⟨g, cur, rfl, hb, (ho.block g (has_lt hh) (fun eq => hgg (by injection eq))).trans hh, hc⟩
/-- rows that lie behind the marked one stay -/
theorem OR.behind (h : OR w base e A xs) (hm : Marks w B e' A' ys w') (hlt : ys = [] ∨ ∀ a, A' = some a → a.block < base) : OR w' base e A xs := by
  rcases hm with ⟨_, rfl⟩ | ⟨hne, g', cur', rfl, hb', hh', ho⟩
  · exact h
  · have hl : g' < base := (hlt.resolve_left hne) _ rfl
    exact h.kept fun g hg hgs => ho.block g hgs (fun eq => by injection eq; omega)
end
/-- n numbers from k on -/
def seqI (k : Int) (n : Nat) : List Int := (List.range n).map fun (j : Nat) => k + (j : Int)
def seqB (k : Int) (n : Nat) : List Bx := (List.range n).map fun (j : Nat) => ⟨k + 4 * (j : Int), k + 4 * (j : Int) + 1, k + 4 * (j : Int) + 1 + 1, (k + 4 * (j : Int) + 1 + 1 + 1) % 3 == 0⟩
end Go.Proofs.YtjpkpfmpjgeeiaaGreat
namespace Go.Proofs.YtjpkpfmpjgeeiaaGreat
open Go.RowKit
set_option linter.unusedVariables false

theorem szInt_any (w : World) (A : Option Addr) (n c : Nat) (left : Int) (hn : n ≤ maxLen) (h1 : 0 ≤ left) (h2 : left ≤ 1048576) :
    Calls Tryz.prog 133 #[.slice A n c, .int .i64 left] w fun e w' => e = .returned (.int .i64 (szI left n)) ∧ w' = w := by
  unfold maxLen at hn
  by_cases h : left < n
  · go_enter Tryz.func133, Tryz.ntmps133
    go_wp2
    go_ret
    exact ⟨ret_int (if_pos (by omega)).symm, rfl⟩
  · go_enter Tryz.func133, Tryz.ntmps133
    go_wp2
    go_ret
    exact ⟨ret_int (if_neg (by omega)).symm, rfl⟩
theorem szBox_any (w : World) (A : Option Addr) (n c : Nat) (left : Int) (hn : n ≤ maxLen) (h1 : 0 ≤ left) (h2 : left ≤ 1048576) :
    Calls Tryz.prog 134 #[.slice A n c, .int .i64 left] w fun e w' => e = .returned (.int .i64 (szI left n)) ∧ w' = w := by
  unfold maxLen at hn
  by_cases h : left < n
  · go_enter Tryz.func134, Tryz.ntmps134
    go_wp2
    go_ret
    exact ⟨ret_int (if_pos (by omega)).symm, rfl⟩
  · go_enter Tryz.func134, Tryz.ntmps134
    go_wp2
    go_ret
    exact ⟨ret_int (if_neg (by omega)).symm, rfl⟩
/-- the size of a column: -1 if it is above what is left -/
def szC (left : Int) (n m : Nat) : Int := if left < n + m then -1 else left - n - m
theorem szColumn_any (w : World) (A A' : Option Addr) (n c m c' : Nat) (h : Int) (left : Int) (hn : n ≤ maxLen) (hm : m ≤ maxLen) (h1 : 0 ≤ left) (h2 : left ≤ 1048576) :
    Calls Tryz.prog 102 #[.agg #[.int .i64 h, .slice A n c, .slice A' m c'], .int .i64 left] w fun e w' => e = .returned (.int .i64 (szC left n m)) ∧ Below w.heap.size w w' := by
  by_cases hl : left < n
  · have e1 : szI left n = -1 := if_pos hl
    go_enter Tryz.func102, Tryz.ntmps102
    go_wp2_with fail
    refine (szInt_any _ _ _ _ _ hn h1 h2).mono ?_
    rintro e w1 ⟨rfl, rfl⟩
    rw [e1]
    clear e1
    go_wp2_with fail
    go_ret
    exact ⟨ret_int (if_pos (by omega)).symm, balloc _ _⟩
  · have e1 : szI left n = left - n := if_neg hl
    by_cases hl2 : left - n < m
    · have e2 : szI (left - n) m = -1 := if_pos hl2
      go_enter Tryz.func102, Tryz.ntmps102
      go_wp2_with fail
      refine (szInt_any _ _ _ _ _ hn h1 h2).mono ?_
      rintro e w1 ⟨rfl, rfl⟩
      rw [e1]
      clear e1
      go_wp2_with fail
      refine (szBox_any _ _ _ _ _ hm (by omega) (by omega)).mono ?_
      rintro e w1 ⟨rfl, rfl⟩
      rw [e2]
      clear e2
      go_wp2_with fail
      go_ret
      exact ⟨ret_int (if_pos (by omega)).symm, balloc _ _⟩
    · have e2 : szI (left - n) m = left - n - m := if_neg hl2
      go_enter Tryz.func102, Tryz.ntmps102
      go_wp2_with fail
      refine (szInt_any _ _ _ _ _ hn h1 h2).mono ?_
      rintro e w1 ⟨rfl, rfl⟩
      rw [e1]
      clear e1
      go_wp2_with fail
      refine (szBox_any _ _ _ _ _ hm (by omega) (by omega)).mono ?_
      rintro e w1 ⟨rfl, rfl⟩
      rw [e2]
      clear e2
      go_wp2_with fail
      go_ret
      exact ⟨ret_int (if_neg (by omega)).symm, balloc _ _⟩

theorem intInfo : (Tryz.prog.info? 3).map (fun i => (i.zero, i.size, i.bytes)) = some (some (.int .i64 0), 1, 8) := by kernel_rfl
theorem boxInfo : (Tryz.prog.info? 125).map (fun i => (i.zero, i.size, i.bytes)) = some (some (.agg #[.int .i64 0, .int .i64 0, .int .i64 0, .bool false]), 4, 32) := by kernel_rfl

set_option maxHeartbeats 400000 in
theorem toIntS_any (w : World) (B : Nat) (A : Option Addr) (c : Nat) (l : List Int) (hl : l.length ≤ 1048576) (hB : B ≤ w.heap.size) (hS : IL w B A l) :
    Calls Tryz.prog 137 #[.slice A l.length c] w fun e w' => ∃ A' c', e = .returned (.slice A' l.length c') ∧ OR w' w.heap.size 3 A' (intV l) ∧ Below w.heap.size w w' := by
  have hmk : ∀ W : World, (Instr.makeSlice 108 (.int .i64 (l.length : Int)) (.int .i64 (l.length : Int))).run Tryz.prog W = .ok (.slice (some ⟨W.heap.size, 0, none⟩) l.length l.length) (W.alloc (.cells (madeCells #[.int .i64 0] l.length) 3)) := by
    intro W
    obtain ⟨i, hi, hz0, hz1, hz2⟩ := info_parts intInfo
    have := run_make (P := Tryz.prog) W 108 3 i _ Tryz.underlying108 hi hz0 .i64 .i64 (l.length : Int) (l.length : Int) (by omega) (by omega) (by rw [hz2]; omega) (by omega)
    simpa [hz1, Value.cells] using this
  have HS := Lib.hid hS; clear hS
  go_enter Tryz.func137, Tryz.ntmps137
  go_wp2
  go_loopw [4] (fun i wr => ∃ (k : Nat) (cs : Array Value), k ≤ l.length ∧ i = .int .i64 k ∧ Has wr w.heap.size 3 cs ∧ cs.size = l.length ∧ (∀ j x, j < k → l[j]? = some x → cs[j]? = some (.int .i64 x)) ∧ Below w.heap.size w wr) (fun i _ => l.length - (intOf i).toNat)
  case atStart => exact ⟨0, _, Nat.zero_le _, rfl, has_new _ _ _, by simp [size_madeCells], fun j x hj => absurd hj (by omega), balloc _ _⟩
  case round =>
    obtain ⟨k, cs, hk, rfl, hH, hcs, hg, hb⟩ := hrel
    have HG := Lib.hid hg; clear hg
    clear hmk
    have hsz := hb.size
    by_cases hlt : k < l.length
    · obtain ⟨b, off, x, rfl, hbB, hx, hc0⟩ := (HS.out.later hB hb).at_ hlt
      obtain ⟨uc, huc⟩ : ∃ uc, cs[k]? = some uc := ⟨_, Array.getElem?_eq_getElem (by omega)⟩
      have hs0 := has_cell hH k huc
      clear huc
      have hf0 := has_free hH k
      have HX := Lib.hid hx; clear hx
      have HH := Lib.hid hH; clear hH
      have hset : (∀ j y, j < k + 1 → l[j]? = some y → (cs.setIfInBounds k (.int .i64 x))[j]? = some (.int .i64 y)) := fun j y hj hy => by
        rw [Array.getElem?_setIfInBounds]
        by_cases e : k = j
        · subst e
          rw [if_pos rfl, if_pos (by omega)]
          rw [HX.out] at hy; injection hy with hy; rw [hy]
        · rw [if_neg e]; exact HG.out j y (by omega) hy
      have HSET := Lib.hid hset; clear hset
      have HCS := Lib.hid hcs; clear hcs
      go_wp2
      go_roundw
      case rel => exact ⟨k + 1, _, by omega, by go_num, has_set HH.out k _, by simp [HCS.out], HSET.out, hb.setCell (Nat.le_refl _) _⟩
      case measure => simp [intOf]; omega
    · go_wp2
      go_ret
      have hkl : k = l.length := by omega
      subst hkl
      refine ⟨_, _, rfl, .inr ⟨_, cs, rfl, Nat.le_refl _, hH, fun j u hu => ?_⟩, hb⟩
      have hj : j < l.length := by have := (List.getElem?_eq_some_iff.1 hu).1; rwa [intV_len] at this
      have hx := List.getElem?_eq_getElem hj
      rw [intV_at hx] at hu
      rw [← hu]; exact HG.out j _ hj hx

set_option maxHeartbeats 400000 in
theorem eqIntS_any (w : World) (B B' : Nat) (A A' : Option Addr) (c c' : Nat) (l : List Int) (hl : l.length ≤ maxLen) (hB : B ≤ w.heap.size) (hB' : B' ≤ w.heap.size) (hS : IL w B A l) (hS' : IL w B' A' l) :
    Calls Tryz.prog 148 #[.slice A l.length c, .slice A' l.length c'] w fun e w' => e = .returned (.bool true) ∧ Below w.heap.size w w' := by
  unfold maxLen at hl
  have e0 : ((l.length : Int) != (l.length : Int)) = false := by simp
  go_enter Tryz.func148, Tryz.ntmps148
  go_wp2
  clear e0
  go_loopw [5] (fun i wr => ∃ k : Nat, k ≤ l.length ∧ i = .int .i64 k ∧ Below w.heap.size w wr) (fun i _ => l.length - (intOf i).toNat)
  case atStart => exact ⟨0, Nat.zero_le _, rfl, Below.refl _ _⟩
  case round =>
    obtain ⟨k, hk, rfl, hb⟩ := hrel
    by_cases hlt : k < l.length
    · have hsz := hb.size
      obtain ⟨b, off, x, rfl, hbB, hx, hc0⟩ := (hS.below (hb.mono hB)).at_ hlt
      obtain ⟨b', off', y, rfl, hbB', hy, hd0⟩ := (hS'.below (hb.mono hB')).at_ hlt
      obtain rfl : x = y := by rw [hx] at hy; injection hy
      clear hx hy
      have HS := Lib.hid hS; clear hS
      have HS' := Lib.hid hS'; clear hS'
      have e0 : (x != x) = false := by simp
      go_wp2
      go_quiet (fail)
      go_wp2
      go_roundw
      case rel => exact ⟨k + 1, by omega, by go_num, below_drewN hb _⟩
      case measure => simp [intOf]; omega
    · go_wp2
      go_ret
      exact ⟨rfl, hb⟩

theorem toBox_any (x0 x1 x2 : Int) (x3 : Bool) (w : World) :
    Calls Tryz.prog 161 #[.agg #[.int .i64 x0, .int .i64 x1, .int .i64 x2, .bool x3]] w fun e w' => e = .returned (.agg #[.int .i64 x0, .int .i64 x1, .int .i64 x2, .bool x3]) ∧ Below w.heap.size w w' := by
  go_enter Tryz.func161, Tryz.ntmps161
  go_wp2
  exact bodyPost_ret (v := .agg #[.int .i64 x0, .int .i64 x1, .int .i64 x2, .bool x3]) (by simp [results, Tryz.results161, go_sem]) rfl ⟨rfl, (((Below.refl _ _).alloc (Nat.le_refl _) _).alloc (by simp) _).alloc (by simp; omega) _⟩
theorem eqBox_any (x0 x1 x2 : Int) (x3 : Bool) (w : World) :
    Calls Tryz.prog 163 #[.agg #[.int .i64 x0, .int .i64 x1, .int .i64 x2, .bool x3], .agg #[.int .i64 x0, .int .i64 x1, .int .i64 x2, .bool x3]] w fun e w' => e = .returned (.bool true) ∧ Below w.heap.size w w' := by
  have hb : Below w.heap.size w ((w.alloc (.cells #[.int .i64 x0, .int .i64 x1, .int .i64 x2, .bool x3] 125)).alloc (.cells #[.int .i64 x0, .int .i64 x1, .int .i64 x2, .bool x3] 125)) := ((Below.refl _ _).alloc (Nat.le_refl _) _).alloc (by simp) _
  have e0 : (x0 != x0) = false := by simp
  have e1 : (x1 != x1) = false := by simp
  have e2 : (x2 != x2) = false := by simp
  have e3 : (x3 != x3) = false := by simp
  go_enter Tryz.func163, Tryz.ntmps163
  go_wp2
  go_ret
  exact ⟨rfl, hb⟩
end Go.Proofs.YtjpkpfmpjgeeiaaGreat
namespace Go.Proofs.YtjpkpfmpjgeeiaaGreat
open Go.RowKit
set_option linter.unusedVariables false

end Go.Proofs.YtjpkpfmpjgeeiaaGreat
namespace Go.Proofs.YtjpkpfmpjgeeiaaGreat
open Go.RowKit
set_option linter.unusedVariables false

/-- the row lies in a block of its own, at or behind lo and before hi -/
def OI (w : World) (lo hi : Nat) (e : TypeId) (A : Option Addr) (xs : List Value) : Prop :=
  xs = [] ∨ ∃ g cur, A = some ⟨g, 0, none⟩ ∧ lo ≤ g ∧ g < hi ∧ Has w g e cur ∧ ∀ (j : Nat) (u : Value), xs[j]? = some u → cur[j]? = some u
/-- outside of the range of blocks all is as it was -/
def Within (lo hi : Nat) (w w' : World) : Prop := Below 0 w w' ∧ ∀ k, k < w.heap.size → (k < lo ∨ hi ≤ k) → w'.heap[k]? = w.heap[k]?
section
variable {w w' w2 : World} {lo hi a b B base g : Nat} {e e' t : TypeId} {A A' : Option Addr} {xs ys : List Value} {cs : Array Value}
theorem OI.of_or (h : OR w lo e A xs) : OI w lo w.heap.size e A xs := by
  rcases h with h | ⟨g, cur, rfl, hb, hh, hc⟩
  · exact .inl h
  · exact .inr ⟨g, cur, rfl, hb, has_lt hh, hh, hc⟩
theorem OI.or_ (h : OI w lo hi e A xs) : OR w lo e A xs := by
  rcases h with h | ⟨g, cur, rfl, hb, _, hh, hc⟩
  · exact .inl h
  · exact .inr ⟨g, cur, rfl, hb, hh, hc⟩
theorem OI.il {l : List Int} (h : OI w lo hi e A (intV l)) : IL w w.heap.size A l := h.or_.il
theorem Within.size (h : Within lo hi w w') : w.heap.size ≤ w'.heap.size := h.1.size
theorem Within.below (h : Within lo hi w w') (hB : B ≤ lo) (hB' : B ≤ w.heap.size) : Below B w w' := ⟨h.1.os, h.1.tape, h.1.output, h.1.size, fun k hk => h.2 k (by omega) (.inl (by omega))⟩
theorem Within.trans (h : Within lo hi w w') (h' : Within lo hi w' w2) : Within lo hi w w2 := ⟨h.1.trans h'.1, fun k hk ho => (h'.2 k (by have := h.1.size; omega) ho).trans (h.2 k hk ho)⟩
theorem Within.has (h : Within lo hi w w') (hH : Has w g t cs) (ho : g < lo ∨ hi ≤ g) : Has w' g t cs := (h.2 g (has_lt hH) ho).trans hH
theorem Within.oi (h : Within lo hi w w') (hO : OI w a b e A xs) (ho : b ≤ lo ∨ hi ≤ a) : OI w' a b e A xs := by
  rcases hO with hO | ⟨g, cur, rfl, h1, h2, hh, hc⟩
  · exact .inl hO
  · exact .inr ⟨g, cur, rfl, h1, h2, h.has hh (by omega), hc⟩
theorem OI.call (h : OI w a b e A xs) (hb : Below w.heap.size w w') : OI w' a b e A xs := by
  rcases h with hO | ⟨g, cur, rfl, h1, h2, hh, hc⟩
  · exact .inl hO
  · exact .inr ⟨g, cur, rfl, h1, h2, has_call hh hb, hc⟩
end
end Go.Proofs.YtjpkpfmpjgeeiaaGreat
