/- Rows of Stop: what a slice of them reads as, and the laws' own helpers over them (gen_row.py). -/
import Derived.Test.YtjcmndbjpbnogaaOwn
import Derived.Test.YtjcmndbjpbnogaaRng
import Derived.Test.YtjcmndbjpbnogaaTouP
import Derived.StillTailTactics
namespace Go.Proofs.Ytjcmndbjpbnogaa
open Go.RowKit
set_option linter.unusedVariables false


/-- a slice of them reads as the list, below block B -/
def spL (w : World) (B : Nat) (A : Option Addr) (l : List Sp) : Prop :=
  l = [] ∨ ∃ b off, A = some ⟨b, off, none⟩ ∧ b < B ∧ ∀ k x, l[k]? = some x → w.cell? ⟨b, off + k * 5, none⟩ = some (.int .i64 x.start) ∧ w.cell? ⟨b, off + k * 5 + 1, none⟩ = some (.int .i64 x.stop) ∧ w.cell? ⟨b, off + k * 5 + 2, none⟩ = some (.int .i64 x.work) ∧ w.cell? ⟨b, off + k * 5 + 3, none⟩ = some (.int .i64 x.bring) ∧ w.cell? ⟨b, off + k * 5 + 4, none⟩ = some (.int .i64 x.fetch)
theorem spL.below {w w' : World} {B : Nat} {A : Option Addr} {l : List Sp} (h : spL w B A l) (hb : Below B w w') : spL w' B A l := by
  rcases h with h | ⟨b, off, rfl, hlt, hc⟩
  · exact .inl h
  · refine .inr ⟨b, off, rfl, hlt, fun k x hx => ?_⟩
    have := hc k x hx
    exact ⟨(hb.cell (p := ⟨b, off + k * 5, none⟩) hlt).trans this.1, (hb.cell (p := ⟨b, off + k * 5 + 1, none⟩) hlt).trans this.2.1, (hb.cell (p := ⟨b, off + k * 5 + 2, none⟩) hlt).trans this.2.2.1, (hb.cell (p := ⟨b, off + k * 5 + 3, none⟩) hlt).trans this.2.2.2.1, (hb.cell (p := ⟨b, off + k * 5 + 4, none⟩) hlt).trans this.2.2.2.2⟩
theorem spL.at_ {w : World} {B : Nat} {A : Option Addr} {l : List Sp} (h : spL w B A l) {k : Nat} (hk : k < l.length) :
    ∃ b off x, A = some ⟨b, off, none⟩ ∧ b < B ∧ l[k]? = some x ∧ w.cell? ⟨b, off + k * 5, none⟩ = some (.int .i64 x.start) ∧ w.cell? ⟨b, off + k * 5 + 1, none⟩ = some (.int .i64 x.stop) ∧ w.cell? ⟨b, off + k * 5 + 2, none⟩ = some (.int .i64 x.work) ∧ w.cell? ⟨b, off + k * 5 + 3, none⟩ = some (.int .i64 x.bring) ∧ w.cell? ⟨b, off + k * 5 + 4, none⟩ = some (.int .i64 x.fetch) := by
  rcases h with h | ⟨b, off, rfl, hlt, hc⟩
  · subst h; simp at hk
  · exact ⟨b, off, _, rfl, hlt, List.getElem?_eq_getElem hk, hc k _ (List.getElem?_eq_getElem hk)⟩
theorem spL.later {w w' : World} {B : Nat} {A : Option Addr} {l : List Sp} (h : spL w B A l) (hB : B ≤ w.heap.size) (hb : Below w.heap.size w w') : spL w' B A l := h.below (hb.mono hB)
theorem spL.more {w : World} {B B' : Nat} {A : Option Addr} {l : List Sp} (h : spL w B A l) (hB : B ≤ B') : spL w B' A l := by
  rcases h with h | ⟨b, off, rfl, hlt, hc⟩
  · exact .inl h
  · exact .inr ⟨b, off, rfl, by omega, hc⟩
def spC (x : Sp) : List Value := [.int .i64 x.start, .int .i64 x.stop, .int .i64 x.work, .int .i64 x.bring, .int .i64 x.fetch]
def spV (l : List Sp) : List Value := l.flatMap spC
theorem spV_len (l : List Sp) : (spV l).length = 5 * l.length := by
  induction l with
  | nil => rfl
  | cons a r ih => simp [spV, spC] at ih ⊢; omega
theorem spV_app (l r : List Sp) : spV (l ++ r) = spV l ++ spV r := by simp [spV]
theorem spV_one (x : Sp) : spV [x] = [.int .i64 x.start, .int .i64 x.stop, .int .i64 x.work, .int .i64 x.bring, .int .i64 x.fetch] := rfl
theorem spV_at : ∀ {l : List Sp} {k : Nat} {x : Sp}, l[k]? = some x → (spV l)[k * 5]? = some (.int .i64 x.start) ∧ (spV l)[k * 5 + 1]? = some (.int .i64 x.stop) ∧ (spV l)[k * 5 + 2]? = some (.int .i64 x.work) ∧ (spV l)[k * 5 + 3]? = some (.int .i64 x.bring) ∧ (spV l)[k * 5 + 4]? = some (.int .i64 x.fetch)
  | [], k, u, h => by simp at h
  | a :: r, 0, u, h => by
    simp at h; subst h
    exact ⟨rfl, rfl, rfl, rfl, rfl⟩
  | a :: r, k + 1, u, h => by
    have ih := spV_at (l := r) (k := k) (x := u) (by simpa using h)
    have e : spV (a :: r) = .int .i64 a.start :: .int .i64 a.stop :: .int .i64 a.work :: .int .i64 a.bring :: .int .i64 a.fetch :: spV r := rfl
    rw [e, show (k + 1) * 5 = k * 5 + 1 + 1 + 1 + 1 + 1 by omega]
    exact ⟨by simpa using ih.1, by simpa using ih.2.1, by simpa using ih.2.2.1, by simpa using ih.2.2.2.1, by simpa using ih.2.2.2.2⟩
theorem spV_nil {l : List Sp} (h : spV l = []) : l = [] := by
  have := congrArg List.length h
  rw [spV_len] at this
  exact List.eq_nil_of_length_eq_zero (by simp only [List.length_nil] at this; omega)
theorem OR.sp {w : World} {base : Nat} {e : TypeId} {A : Option Addr} {l : List Sp} (h : OR w base e A (spV l)) : spL w w.heap.size A l := by
  rcases h with h | ⟨g, cur, rfl, hb, hh, hc⟩
  · exact .inl (spV_nil h)
  · refine .inr ⟨g, 0, rfl, has_lt hh, fun k x hx => ?_⟩
    have := spV_at hx
    rw [Nat.zero_add]
    exact ⟨has_cell hh _ (hc _ _ this.1), has_cell hh _ (hc _ _ this.2.1), has_cell hh _ (hc _ _ this.2.2.1), has_cell hh _ (hc _ _ this.2.2.2.1), has_cell hh _ (hc _ _ this.2.2.2.2)⟩
theorem OI.sp {w : World} {lo hi : Nat} {e : TypeId} {A : Option Addr} {l : List Sp} (h : OI w lo hi e A (spV l)) : spL w w.heap.size A l := h.or_.sp
theorem spV_of {l : List Sp} {cs : Array Value} (h : ∀ j x, j < l.length → l[j]? = some x → cs[j * 5]? = some (.int .i64 x.start) ∧ cs[j * 5 + 1]? = some (.int .i64 x.stop) ∧ cs[j * 5 + 2]? = some (.int .i64 x.work) ∧ cs[j * 5 + 3]? = some (.int .i64 x.bring) ∧ cs[j * 5 + 4]? = some (.int .i64 x.fetch)) : ∀ (j : Nat) (u : Value), (spV l)[j]? = some u → cs[j]? = some u := by
  intro j u hu
  have hj : j < 5 * l.length := by have := (List.getElem?_eq_some_iff.1 hu).1; rwa [spV_len] at this
  obtain ⟨q, r, rfl, hr⟩ : ∃ q r, j = q * 5 + r ∧ r < 5 := ⟨j / 5, j % 5, by omega, by omega⟩
  have hq : q < l.length := by omega
  have hx := List.getElem?_eq_getElem hq
  have h1 := spV_at hx
  have h2 := h q _ hq hx
  rcases r with _ | _ | _ | _ | _ | r
  · rw [Nat.add_zero] at hu ⊢; rw [h1.1] at hu; rw [h2.1]; exact hu
  · rw [h1.2.1] at hu; rw [h2.2.1]; exact hu
  · rw [h1.2.2.1] at hu; rw [h2.2.2.1]; exact hu
  · rw [h1.2.2.2.1] at hu; rw [h2.2.2.2.1]; exact hu
  · rw [h1.2.2.2.2] at hu; rw [h2.2.2.2.2]; exact hu
  · omega
def seqsp (k : Int) (m : Nat) : List Sp := (List.range m).map fun (j : Nat) => ⟨k + 5 * (j : Int), k + 5 * (j : Int) + 1, k + 5 * (j : Int) + 1 + 1, k + 5 * (j : Int) + 1 + 1 + 1, k + 5 * (j : Int) + 1 + 1 + 1 + 1⟩
theorem seqsp_len (k : Int) (m : Nat) : (seqsp k m).length = m := by simp [seqsp]
theorem seqsp_at {k : Int} {m j : Nat} (h : j < m) : (seqsp k m)[j]? = some ⟨k + 5 * (j : Int), k + 5 * (j : Int) + 1, k + 5 * (j : Int) + 1 + 1, k + 5 * (j : Int) + 1 + 1 + 1, k + 5 * (j : Int) + 1 + 1 + 1 + 1⟩ := by simp [seqsp, h]
theorem spV_seq {l : List Sp} {k : Int} (h : spV l = []) : spV (seqsp k l.length) = [] := by rw [spV_nil h]; rfl

theorem szStop_any (w : World) (A : Option Addr) (n c : Nat) (left : Int) (hn : n ≤ maxLen) (h1 : 0 ≤ left) (h2 : left ≤ 1048576) :
    Calls Try.prog 17 #[.slice A n c, .int .i64 left] w fun e w' => e = .returned (.int .i64 (szI left n)) ∧ w' = w := by
  unfold maxLen at hn
  by_cases h : left < n
  · go_enter Try.func17, Try.ntmps17
    go_wp2
    go_ret
    exact ⟨ret_int (if_pos (by omega)).symm, rfl⟩
  · go_enter Try.func17, Try.ntmps17
    go_wp2
    go_ret
    exact ⟨ret_int (if_neg (by omega)).symm, rfl⟩
theorem spInfo : (Try.prog.info? 60).map (fun i => (i.zero, i.size, i.bytes)) = some (some (.agg #[.int .i64 0, .int .i64 0, .int .i64 0, .int .i64 0, .int .i64 0]), 5, 40) := by kernel_rfl

theorem toStop_any (x0 : Int) (x1 : Int) (x2 : Int) (x3 : Int) (x4 : Int) (w : World) :
    Calls Try.prog 34 #[.agg #[.int .i64 x0, .int .i64 x1, .int .i64 x2, .int .i64 x3, .int .i64 x4]] w fun e w' => e = .returned (.agg #[.int .i64 x0, .int .i64 x1, .int .i64 x2, .int .i64 x3, .int .i64 x4]) ∧ Below w.heap.size w w' := by
  go_enter Try.func34, Try.ntmps34
  go_wp2
  exact bodyPost_ret (v := .agg #[.int .i64 x0, .int .i64 x1, .int .i64 x2, .int .i64 x3, .int .i64 x4]) (by simp [results, Try.results34, go_sem]) rfl ⟨rfl, (((Below.refl _ _).alloc (Nat.le_refl _) _).alloc (by simp) _).alloc (by simp; omega) _⟩
theorem eqStop_any (x0 : Int) (x1 : Int) (x2 : Int) (x3 : Int) (x4 : Int) (w : World) :
    Calls Try.prog 39 #[.agg #[.int .i64 x0, .int .i64 x1, .int .i64 x2, .int .i64 x3, .int .i64 x4], .agg #[.int .i64 x0, .int .i64 x1, .int .i64 x2, .int .i64 x3, .int .i64 x4]] w fun e w' => e = .returned (.bool true) ∧ Below w.heap.size w w' := by
  have hb : Below w.heap.size w ((w.alloc (.cells #[.int .i64 x0, .int .i64 x1, .int .i64 x2, .int .i64 x3, .int .i64 x4] 60)).alloc (.cells #[.int .i64 x0, .int .i64 x1, .int .i64 x2, .int .i64 x3, .int .i64 x4] 60)) := ((Below.refl _ _).alloc (Nat.le_refl _) _).alloc (by simp) _
  have e0 : (x0 != x0) = false := by simp
  have e1 : (x1 != x1) = false := by simp
  have e2 : (x2 != x2) = false := by simp
  have e3 : (x3 != x3) = false := by simp
  have e4 : (x4 != x4) = false := by simp
  go_enter Try.func39, Try.ntmps39
  go_wp2
  go_ret
  exact ⟨rfl, hb⟩

/-- block g holds the first k of the list, and has room for all of them -/
structure Copiedsp (w : World) (g : Nat) (cs : Array Value) (l : List Sp) (k : Nat) : Prop where
  heap : Has w g 60 cs
  size : l.length * 5 ≤ cs.size
  got : ∀ j x, j < k → l[j]? = some x → cs[j * 5]? = some (.int .i64 x.start) ∧ cs[j * 5 + 1]? = some (.int .i64 x.stop) ∧ cs[j * 5 + 2]? = some (.int .i64 x.work) ∧ cs[j * 5 + 3]? = some (.int .i64 x.bring) ∧ cs[j * 5 + 4]? = some (.int .i64 x.fetch)
theorem Copiedsp.below {w w' : World} {g : Nat} {cs : Array Value} {l : List Sp} {k : Nat} (h : Copiedsp w g cs l k) (hb : Below w.heap.size w w') : Copiedsp w' g cs l k := ⟨has_call h.heap hb, h.size, h.got⟩
theorem Copiedsp.cellAt {w : World} {g : Nat} {cs : Array Value} {l : List Sp} {k j : Nat} (h : Copiedsp w g cs l k) (hj : j < l.length * 5) : ∃ u, w.cell? ⟨g, j, none⟩ = some u :=
  ⟨cs[j]'(Nat.lt_of_lt_of_le hj h.size), has_cell h.heap j (Array.getElem?_eq_getElem _)⟩
theorem Copiedsp.step {w : World} {g : Nat} {cs : Array Value} {l : List Sp} {k : Nat} (h : Copiedsp w g cs l k) {x : Sp} (hx : l[k]? = some x) :
    Copiedsp (((((w.setCell ⟨g, k * 5, none⟩ (.int .i64 x.start)).setCell ⟨g, k * 5 + 1, none⟩ (.int .i64 x.stop)).setCell ⟨g, k * 5 + 2, none⟩ (.int .i64 x.work)).setCell ⟨g, k * 5 + 3, none⟩ (.int .i64 x.bring)).setCell ⟨g, k * 5 + 4, none⟩ (.int .i64 x.fetch)) g (((((cs.setIfInBounds (k * 5) (.int .i64 x.start)).setIfInBounds (k * 5 + 1) (.int .i64 x.stop)).setIfInBounds (k * 5 + 2) (.int .i64 x.work)).setIfInBounds (k * 5 + 3) (.int .i64 x.bring)).setIfInBounds (k * 5 + 4) (.int .i64 x.fetch)) l (k + 1) := by
  have hlt : k < l.length := (List.getElem?_eq_some_iff.1 hx).1
  have hsz := h.size
  refine ⟨(has_set (has_set (has_set (has_set (has_set h.heap _ _) _ _) _ _) _ _) _ _), by simpa using h.size, fun j y hj hy => ?_⟩
  by_cases hjk : j = k
  · subst hjk
    obtain rfl : x = y := by rw [hx] at hy; injection hy
    simp only [Array.getElem?_setIfInBounds, Array.size_setIfInBounds]
    refine ⟨?_, ?_, ?_, ?_, ?_⟩
    · rw [if_neg (by omega), if_neg (by omega), if_neg (by omega), if_neg (by omega), if_pos trivial, if_pos (by omega)]
    · rw [if_neg (by omega), if_neg (by omega), if_neg (by omega), if_pos trivial, if_pos (by omega)]
    · rw [if_neg (by omega), if_neg (by omega), if_pos trivial, if_pos (by omega)]
    · rw [if_neg (by omega), if_pos trivial, if_pos (by omega)]
    · rw [if_pos trivial, if_pos (by omega)]
  · have := h.got j y (by omega) hy
    simp only [Array.getElem?_setIfInBounds]
    refine ⟨?_, ?_, ?_, ?_, ?_⟩
    all_goals rw [if_neg (by omega), if_neg (by omega), if_neg (by omega), if_neg (by omega), if_neg (by omega)]
    · exact this.1
    · exact this.2.1
    · exact this.2.2.1
    · exact this.2.2.2.1
    · exact this.2.2.2.2
theorem Copiedsp.put {w : World} {g : Nat} {cs : Array Value} {l : List Sp} {k : Nat} (h : Copiedsp w g cs l l.length) (hk : k < l.length) (x : Sp) :
    Copiedsp (((((w.setCell ⟨g, k * 5, none⟩ (.int .i64 x.start)).setCell ⟨g, k * 5 + 1, none⟩ (.int .i64 x.stop)).setCell ⟨g, k * 5 + 2, none⟩ (.int .i64 x.work)).setCell ⟨g, k * 5 + 3, none⟩ (.int .i64 x.bring)).setCell ⟨g, k * 5 + 4, none⟩ (.int .i64 x.fetch)) g (((((cs.setIfInBounds (k * 5) (.int .i64 x.start)).setIfInBounds (k * 5 + 1) (.int .i64 x.stop)).setIfInBounds (k * 5 + 2) (.int .i64 x.work)).setIfInBounds (k * 5 + 3) (.int .i64 x.bring)).setIfInBounds (k * 5 + 4) (.int .i64 x.fetch)) (l.set k x) (l.set k x).length := by
  have hsz := h.size
  refine ⟨(has_set (has_set (has_set (has_set (has_set h.heap _ _) _ _) _ _) _ _) _ _), by simpa using h.size, fun j y hj hy => ?_⟩
  rw [List.length_set] at hj
  by_cases hjk : j = k
  · subst hjk
    rw [List.getElem?_set_self hk] at hy
    obtain rfl : x = y := by injection hy
    simp only [Array.getElem?_setIfInBounds, Array.size_setIfInBounds]
    refine ⟨?_, ?_, ?_, ?_, ?_⟩
    · rw [if_neg (by omega), if_neg (by omega), if_neg (by omega), if_neg (by omega), if_pos trivial, if_pos (by omega)]
    · rw [if_neg (by omega), if_neg (by omega), if_neg (by omega), if_pos trivial, if_pos (by omega)]
    · rw [if_neg (by omega), if_neg (by omega), if_pos trivial, if_pos (by omega)]
    · rw [if_neg (by omega), if_pos trivial, if_pos (by omega)]
    · rw [if_pos trivial, if_pos (by omega)]
  · rw [List.getElem?_set_ne (fun e => hjk e.symm)] at hy
    have := h.got j y hj hy
    simp only [Array.getElem?_setIfInBounds]
    refine ⟨?_, ?_, ?_, ?_, ?_⟩
    all_goals rw [if_neg (by omega), if_neg (by omega), if_neg (by omega), if_neg (by omega), if_neg (by omega)]
    · exact this.1
    · exact this.2.1
    · exact this.2.2.1
    · exact this.2.2.2.1
    · exact this.2.2.2.2
theorem Copiedsp.row {w : World} {g base : Nat} {cs : Array Value} {l : List Sp} (h : Copiedsp w g cs l l.length) (hb : base ≤ g) : OR w base 60 (some ⟨g, 0, none⟩) (spV l) :=
  .inr ⟨g, cs, rfl, hb, h.heap, spV_of h.got⟩

theorem makesp_run (m : Nat) (hm : m ≤ 1048576) : ∀ W : World, (Instr.makeSlice 30 (.int .i64 (m : Int)) (.int .i64 (m : Int))).run Try.prog W = .ok (.slice (some ⟨W.heap.size, 0, none⟩) m m) (W.alloc (.cells (madeCells #[.int .i64 0, .int .i64 0, .int .i64 0, .int .i64 0, .int .i64 0] (m * 5)) 60)) := by
  intro W
  obtain ⟨i, hi, hz0, hz1, hz2⟩ := info_parts spInfo
  have := run_make (P := Try.prog) W 30 60 i _ Try.underlying30 hi hz0 .i64 .i64 (m : Int) (m : Int) (by omega) (by omega) (by rw [hz2]; omega) (by omega)
  simpa [hz1, Value.cells] using this

set_option maxRecDepth 100000 in
set_option maxHeartbeats 2000000 in
theorem toStopS_any (w : World) (B : Nat) (A : Option Addr) (c : Nat) (l : List Sp) (hl : l.length ≤ 1048576) (hB : B ≤ w.heap.size) (hS : spL w B A l) :
    Calls Try.prog 20 #[.slice A l.length c] w fun e w' => ∃ A' c', e = .returned (.slice A' l.length c') ∧ OR w' w.heap.size 60 A' (spV l) ∧ Below w.heap.size w w' := by
  have hmk := makesp_run l.length hl
  go_enter Try.func20, Try.ntmps20
  go_wp2
  go_loopw [4] (fun i wr => ∃ (k : Nat) (cs : Array Value), k ≤ l.length ∧ i = .int .i64 k ∧ Copiedsp wr w.heap.size cs l k ∧ Below w.heap.size w wr) (fun i _ => l.length - (intOf i).toNat)
  case atStart => exact ⟨0, _, Nat.zero_le _, rfl, ⟨has_new _ _ _, by simp [size_madeCells], fun j x hj => absurd hj (by omega)⟩, balloc _ _⟩
  case round =>
    obtain ⟨k, cs, hk, rfl, hcp, hb⟩ := hrel
    have HC := Lib.hid hcp; clear hcp
    clear hmk
    have hsz := hb.size
    by_cases hlt : k < l.length
    · obtain ⟨b, off, ⟨x0, x1, x2, x3, x4⟩, rfl, hbB, hx, hc0, hc1, hc2, hc3, hc4⟩ := (hS.below (hb.mono hB)).at_ hlt
      have Hx := Lib.hid hx; clear hx
      have HS := Lib.hid hS; clear hS
      dsimp only at hc0 hc1 hc2 hc3 hc4
      go_wp2_with fail
      refine (toStop_any _ _ _ _ _ _).mono ?_
      rintro e w1 ⟨rfl, hb1⟩
      have hC1 := HC.out.below hb1
      obtain ⟨u0, hu0⟩ := hC1.cellAt (j := k * 5) (by omega)
      obtain ⟨u1, hu1⟩ := hC1.cellAt (j := k * 5 + 1) (by omega)
      obtain ⟨u2, hu2⟩ := hC1.cellAt (j := k * 5 + 2) (by omega)
      obtain ⟨u3, hu3⟩ := hC1.cellAt (j := k * 5 + 3) (by omega)
      obtain ⟨u4, hu4⟩ := hC1.cellAt (j := k * 5 + 4) (by omega)
      have hf0 := has_free hC1.heap (k * 5)
      have hf1 := has_free hC1.heap (k * 5 + 1)
      have hf2 := has_free hC1.heap (k * 5 + 2)
      have hf3 := has_free hC1.heap (k * 5 + 3)
      have hf4 := has_free hC1.heap (k * 5 + 4)
      have hst := hC1.step Hx.out
      have HST := Lib.hid hst; clear hst hC1
      go_wp2
      go_roundw
      case rel => exact ⟨k + 1, _, by omega, by go_num, HST.out, ((((((hb.trans (hb1.mono hsz)).setCell (Nat.le_refl _) _).setCell (Nat.le_refl _) _).setCell (Nat.le_refl _) _).setCell (Nat.le_refl _) _).setCell (Nat.le_refl _) _)⟩
      case measure => simp [intOf]; omega
    · go_wp2
      go_ret
      have hkl : k = l.length := by omega
      subst hkl
      exact ⟨_, _, rfl, HC.out.row (Nat.le_refl _), hb⟩

set_option maxRecDepth 100000 in
set_option maxHeartbeats 2000000 in
theorem eqStopS_any (w : World) (B B' : Nat) (A A' : Option Addr) (c c' : Nat) (l : List Sp) (hl : l.length ≤ maxLen) (hB : B ≤ w.heap.size) (hB' : B' ≤ w.heap.size) (hS : spL w B A l) (hS' : spL w B' A' l) :
    Calls Try.prog 25 #[.slice A l.length c, .slice A' l.length c'] w fun e w' => e = .returned (.bool true) ∧ Below w.heap.size w w' := by
  unfold maxLen at hl
  have e0 : ((l.length : Int) != (l.length : Int)) = false := by simp
  go_enter Try.func25, Try.ntmps25
  go_wp2
  clear e0
  go_loopw [5] (fun i wr => ∃ k : Nat, k ≤ l.length ∧ i = .int .i64 k ∧ Below w.heap.size w wr) (fun i _ => l.length - (intOf i).toNat)
  case atStart => exact ⟨0, Nat.zero_le _, rfl, Below.refl _ _⟩
  case round =>
    obtain ⟨k, hk, rfl, hb⟩ := hrel
    by_cases hlt : k < l.length
    · have hsz := hb.size
      obtain ⟨b, off, x, rfl, hbB, hx, hc0, hc1, hc2, hc3, hc4⟩ := (hS.below (hb.mono hB)).at_ hlt
      obtain ⟨b', off', y, rfl, hbB', hy, hd0, hd1, hd2, hd3, hd4⟩ := (hS'.below (hb.mono hB')).at_ hlt
      obtain rfl : x = y := by rw [hx] at hy; injection hy
      obtain ⟨x0, x1, x2, x3, x4⟩ := x
      dsimp only at hc0 hc1 hc2 hc3 hc4 hd0 hd1 hd2 hd3 hd4
      clear hx hy
      have HS := Lib.hid hS; clear hS
      have HS' := Lib.hid hS'; clear hS'
      have hbw : b < wr.heap.size := by omega
      have hbw' : b' < wr.heap.size := by omega
      go_wp2
      go_still_tail 8, (by kernel_rfl)
      change wpList _ _ _ _ _ wr.drew
      go_wp2_with (go_at_call 39; refine (eqStop_any _ _ _ _ _ _).mono ?_; rintro e w1 ⟨rfl, hb1⟩)
      go_roundw
      case rel => exact ⟨k + 1, by omega, by go_num, (hb.drew).trans (hb1.mono hsz)⟩
      case measure => simp [intOf]; omega
    · go_wp2
      go_ret
      exact ⟨rfl, hb⟩

set_option maxRecDepth 100000 in
set_option maxHeartbeats 2000000 in
theorem markStop_any (w : World) (base : Nat) (A : Option Addr) (c : Nat) (l : List Sp) (k0 : Int) (hl : l.length ≤ 1048576) (h0 : 0 ≤ k0) (h1 : k0 ≤ 1000000000) (h : OR w base 60 A (spV l)) :
    Calls Try.prog 27 #[.slice A l.length c, .int .i64 k0] w fun e w' => e = .returned (.int .i64 (k0 + 5 * (l.length : Int))) ∧ OR w' base 60 A (spV (seqsp k0 l.length)) ∧ Marks w base 60 A (spV l) w' := by
  rcases Nat.eq_zero_or_pos l.length with hz | hpos
  · obtain rfl := List.eq_nil_of_length_eq_zero hz
    go_enter Try.func27, Try.ntmps27
    go_wp2
    go_loopw [1, 5] (fun kv i wr => i = .int .i64 0 ∧ kv = .int .i64 k0 ∧ wr = w) (fun _ i _ => 0)
    case atStart => exact ⟨rfl, rfl, rfl⟩
    case round =>
      obtain ⟨rfl, rfl, rfl⟩ := hrel
      go_wp2
      go_ret
      exact ⟨ret_int (by simp), .inl rfl, .inl ⟨rfl, rfl⟩⟩
  rcases h with h | ⟨g, cur, rfl, hbg, hH, hc⟩
  · obtain rfl := spV_nil h
    simp at hpos
  have hsz : l.length * 5 ≤ cur.size := by
    have hx := (spV_at (List.getElem?_eq_getElem (show l.length - 1 < l.length by omega))).2.2.2.2
    have := (Array.getElem?_eq_some_iff.1 (hc _ _ hx)).1
    omega
  have HH0 := Lib.hid hH
  have HC := Lib.hid hc; clear hc
  go_enter Try.func27, Try.ntmps27
  go_wp2
  go_loopw [1, 5] (fun kv i wr => ∃ (k : Nat) (cs : Array Value), k ≤ l.length ∧ i = .int .i64 k ∧ kv = .int .i64 (k0 + 5 * (k : Int)) ∧ Copiedsp wr g cs (seqsp k0 l.length) k ∧ Only w g wr) (fun _ i _ => l.length - (intOf i).toNat)
  case atStart => exact ⟨0, cur, Nat.zero_le _, rfl, by simp, ⟨hH, by rw [seqsp_len]; exact hsz, fun j x hj => absurd hj (by omega)⟩, only_refl _ _⟩
  case round =>
    obtain ⟨k, cs, hk, rfl, rfl, hcp, ho⟩ := hrel
    by_cases hlt : k < l.length
    · have hx := seqsp_at (k := k0) hlt
      obtain ⟨u0, hu0⟩ := hcp.cellAt (j := k * 5) (by rw [seqsp_len]; omega)
      obtain ⟨u1, hu1⟩ := hcp.cellAt (j := k * 5 + 1) (by rw [seqsp_len]; omega)
      obtain ⟨u2, hu2⟩ := hcp.cellAt (j := k * 5 + 2) (by rw [seqsp_len]; omega)
      obtain ⟨u3, hu3⟩ := hcp.cellAt (j := k * 5 + 3) (by rw [seqsp_len]; omega)
      obtain ⟨u4, hu4⟩ := hcp.cellAt (j := k * 5 + 4) (by rw [seqsp_len]; omega)
      have hf0 := has_free hcp.heap (k * 5)
      have hf1 := has_free hcp.heap (k * 5 + 1)
      have hf2 := has_free hcp.heap (k * 5 + 2)
      have hf3 := has_free hcp.heap (k * 5 + 3)
      have hf4 := has_free hcp.heap (k * 5 + 4)
      have hst := hcp.step hx
      dsimp only at hst
      have HST := Lib.hid hst; clear hst hx
      have HCP := Lib.hid hcp; clear hcp
      go_wp2
      go_roundw
      case rel => exact ⟨k + 1, _, by omega, by go_num, by go_num, HST.out, (only_set (only_set (only_set (only_set (only_set ho _ _) _ _) _ _) _ _) _ _)⟩
      case measure => simp [intOf]; omega
    · go_wp2
      go_ret
      have hkl : k = l.length := by omega
      subst hkl
      refine ⟨rfl, .inr ⟨g, cs, rfl, hbg, hcp.heap, spV_of fun j x hj hx => hcp.got j x (by rw [seqsp_len] at hj; exact hj) hx⟩, .inr ⟨fun e => ?_, g, cur, rfl, hbg, HH0.out, ho⟩⟩
      have := spV_nil e; rw [this] at hpos; simp at hpos

end Go.Proofs.Ytjcmndbjpbnogaa
