
/- Chapter 8: journals: plain facts. -/
import Derived.Test.YtjpkpfmpjgeeiaaGreatQ13
import Derived.Test.YtjpkpfmpjgeeiaaGreatQ02
import Derived.StillTailTactics
namespace Go.Proofs.YtjpkpfmpjgeeiaaGreat
open Go.RowKit
set_option linter.unusedVariables false

structure Ev where
  nod : Int
  seq : Int
  stm : Int
  knd : Int
  par : Int
  aa : Int
  bb : Int
deriving DecidableEq
def zeroE : Ev := ⟨0, 0, 0, 0, 0, 0, 0⟩
def evB (e : Ev) : Bool := inR e.nod 0 5 && inR e.seq 1 999 && inR e.stm 1 100000 && inR e.knd 1 4 && inR e.par 1 999 && inR e.aa 0 20000 && inR e.bb 0 20000
/-- y may stand behind x -/
def folB (x y : Ev) : Bool := decide (x.nod < y.nod) || (decide (x.nod = y.nod) && decide (x.seq < y.seq) && decide (x.stm < y.stm))
def folA : List Ev → Bool
  | [] => true
  | [_] => true
  | x :: y :: r => folB x y && folA (y :: r)
def jrnB (l : List Ev) : Bool := decide (l.length ≤ 60) && l.all evB && folA l
theorem folB_iff {x y : Ev} : folB x y = true ↔ x.nod < y.nod ∨ (x.nod = y.nod ∧ x.seq < y.seq ∧ x.stm < y.stm) := by
  simp only [folB, Bool.or_eq_true, Bool.and_eq_true, decide_eq_true_eq, and_assoc]
/-- adjacent ones may follow: the same by indices -/
theorem folA_iff : ∀ {l : List Ev}, folA l = true ↔ ∀ k x y, l[k]? = some x → l[k + 1]? = some y → folB x y = true
  | [] => by simp [folA]
  | [a] => by simp [folA]
  | a :: b :: r => by
    rw [folA, Bool.and_eq_true, folA_iff (l := b :: r)]
    constructor
    · rintro ⟨h1, h2⟩ k x y hx hy
      cases k with
      | zero => simp at hx hy; subst hx hy; exact h1
      | succ k => exact h2 k x y (by simpa using hx) (by simpa using hy)
    · intro h
      exact ⟨h 0 a b rfl rfl, fun k x y hx hy => h (k + 1) x y (by simpa using hx) (by simpa using hy)⟩
theorem jrn_long {l : List Ev} (h : 60 < l.length) : jrnB l = false := by unfold jrnB; rw [decide_eq_false (by omega)]; rfl
theorem jrn_bad {l : List Ev} {k : Nat} {x : Ev} (hx : l[k]? = some x) (h : evB x = false) : jrnB l = false := by
  have : l.all evB = false := by rw [List.all_eq_false]; exact ⟨x, List.mem_of_getElem? hx, by simp [h]⟩
  unfold jrnB; rw [this]; simp
theorem jrn_off {l : List Ev} {k : Nat} {x y : Ev} (hx : l[k]? = some x) (hy : l[k + 1]? = some y) (h : folB x y = false) : jrnB l = false := by
  have : folA l = false := by
    cases h2 : folA l
    · rfl
    · rw [folA_iff.1 h2 k x y hx hy] at h; cases h
  unfold jrnB; rw [this]; simp
/-- the first k are valid and in order -/
def JrnTo (l : List Ev) (k : Nat) : Prop := (∀ i x, i < k → l[i]? = some x → evB x = true) ∧ ∀ i x y, i + 1 < k → l[i]? = some x → l[i + 1]? = some y → folB x y = true
theorem jrnTo_zero (l : List Ev) : JrnTo l 0 := ⟨fun _ _ h => by omega, fun _ _ _ h => by omega⟩
theorem jrnTo_succ {l : List Ev} {k : Nat} {y : Ev} (h : JrnTo l k) (hy : l[k]? = some y) (he : evB y = true) (hf : ∀ x, 0 < k → l[k - 1]? = some x → folB x y = true) : JrnTo l (k + 1) := by
  refine ⟨fun i x hi hx => ?_, fun i x z hi hx hz => ?_⟩
  · rcases Nat.lt_or_ge i k with hik | hik
    · exact h.1 i x hik hx
    · have : i = k := by omega
      subst this; rw [hy] at hx; injection hx with hx; subst hx; exact he
  · rcases Nat.lt_or_ge (i + 1) k with hik | hik
    · exact h.2 i x z hik hx hz
    · have : i + 1 = k := by omega
      subst this; rw [hy] at hz; injection hz with hz; subst hz
      exact hf x (by omega) (by simpa using hx)
theorem jrn_all {l : List Ev} (hl : l.length ≤ 60) (h : JrnTo l l.length) : jrnB l = true := by
  unfold jrnB
  rw [decide_eq_true hl, Bool.true_and, Bool.and_eq_true, List.all_eq_true, folA_iff]
  refine ⟨fun x hx => ?_, fun k x y hx hy => ?_⟩
  · obtain ⟨i, hi⟩ := List.getElem?_of_mem hx
    exact h.1 i x (List.getElem?_eq_some_iff.1 hi).1 hi
  · exact h.2 k x y (List.getElem?_eq_some_iff.1 hy).1 hx hy
end Go.Proofs.YtjpkpfmpjgeeiaaGreat
namespace Go.Proofs.YtjpkpfmpjgeeiaaGreat
open Go.RowKit
set_option linter.unusedVariables false
set_option maxRecDepth 100000


/-- a slice of them reads as the list, below block B -/
def evL (w : World) (B : Nat) (A : Option Addr) (l : List Ev) : Prop :=
  l = [] ∨ ∃ b off, A = some ⟨b, off, none⟩ ∧ b < B ∧ ∀ k x, l[k]? = some x → w.cell? ⟨b, off + k * 7, none⟩ = some (.int .i64 x.nod) ∧ w.cell? ⟨b, off + k * 7 + 1, none⟩ = some (.int .i64 x.seq) ∧ w.cell? ⟨b, off + k * 7 + 2, none⟩ = some (.int .i64 x.stm) ∧ w.cell? ⟨b, off + k * 7 + 3, none⟩ = some (.int .i64 x.knd) ∧ w.cell? ⟨b, off + k * 7 + 4, none⟩ = some (.int .i64 x.par) ∧ w.cell? ⟨b, off + k * 7 + 5, none⟩ = some (.int .i64 x.aa) ∧ w.cell? ⟨b, off + k * 7 + 6, none⟩ = some (.int .i64 x.bb)
theorem evL.below {w w' : World} {B : Nat} {A : Option Addr} {l : List Ev} (h : evL w B A l) (hb : Below B w w') : evL w' B A l := by
  rcases h with h | ⟨b, off, rfl, hlt, hc⟩
  · exact .inl h
  · refine .inr ⟨b, off, rfl, hlt, fun k x hx => ?_⟩
    have := hc k x hx
    exact ⟨(hb.cell (p := ⟨b, off + k * 7, none⟩) hlt).trans this.1, (hb.cell (p := ⟨b, off + k * 7 + 1, none⟩) hlt).trans this.2.1, (hb.cell (p := ⟨b, off + k * 7 + 2, none⟩) hlt).trans this.2.2.1, (hb.cell (p := ⟨b, off + k * 7 + 3, none⟩) hlt).trans this.2.2.2.1, (hb.cell (p := ⟨b, off + k * 7 + 4, none⟩) hlt).trans this.2.2.2.2.1, (hb.cell (p := ⟨b, off + k * 7 + 5, none⟩) hlt).trans this.2.2.2.2.2.1, (hb.cell (p := ⟨b, off + k * 7 + 6, none⟩) hlt).trans this.2.2.2.2.2.2⟩
theorem evL.at_ {w : World} {B : Nat} {A : Option Addr} {l : List Ev} (h : evL w B A l) {k : Nat} (hk : k < l.length) :
    ∃ b off x, A = some ⟨b, off, none⟩ ∧ b < B ∧ l[k]? = some x ∧ w.cell? ⟨b, off + k * 7, none⟩ = some (.int .i64 x.nod) ∧ w.cell? ⟨b, off + k * 7 + 1, none⟩ = some (.int .i64 x.seq) ∧ w.cell? ⟨b, off + k * 7 + 2, none⟩ = some (.int .i64 x.stm) ∧ w.cell? ⟨b, off + k * 7 + 3, none⟩ = some (.int .i64 x.knd) ∧ w.cell? ⟨b, off + k * 7 + 4, none⟩ = some (.int .i64 x.par) ∧ w.cell? ⟨b, off + k * 7 + 5, none⟩ = some (.int .i64 x.aa) ∧ w.cell? ⟨b, off + k * 7 + 6, none⟩ = some (.int .i64 x.bb) := by
  rcases h with h | ⟨b, off, rfl, hlt, hc⟩
  · subst h; simp at hk
  · exact ⟨b, off, _, rfl, hlt, List.getElem?_eq_getElem hk, hc k _ (List.getElem?_eq_getElem hk)⟩
theorem evL.later {w w' : World} {B : Nat} {A : Option Addr} {l : List Ev} (h : evL w B A l) (hB : B ≤ w.heap.size) (hb : Below w.heap.size w w') : evL w' B A l := h.below (hb.mono hB)
theorem evL.more {w : World} {B B' : Nat} {A : Option Addr} {l : List Ev} (h : evL w B A l) (hB : B ≤ B') : evL w B' A l := by
  rcases h with h | ⟨b, off, rfl, hlt, hc⟩
  · exact .inl h
  · exact .inr ⟨b, off, rfl, by omega, hc⟩
def evC (x : Ev) : List Value := [.int .i64 x.nod, .int .i64 x.seq, .int .i64 x.stm, .int .i64 x.knd, .int .i64 x.par, .int .i64 x.aa, .int .i64 x.bb]
def evV (l : List Ev) : List Value := l.flatMap evC
theorem evV_len (l : List Ev) : (evV l).length = 7 * l.length := by
  induction l with
  | nil => rfl
  | cons a r ih => simp [evV, evC] at ih ⊢; omega
theorem evV_at : ∀ {l : List Ev} {k : Nat} {x : Ev}, l[k]? = some x → (evV l)[k * 7]? = some (.int .i64 x.nod) ∧ (evV l)[k * 7 + 1]? = some (.int .i64 x.seq) ∧ (evV l)[k * 7 + 2]? = some (.int .i64 x.stm) ∧ (evV l)[k * 7 + 3]? = some (.int .i64 x.knd) ∧ (evV l)[k * 7 + 4]? = some (.int .i64 x.par) ∧ (evV l)[k * 7 + 5]? = some (.int .i64 x.aa) ∧ (evV l)[k * 7 + 6]? = some (.int .i64 x.bb)
  | [], k, u, h => by simp at h
  | a :: r, 0, u, h => by
    simp at h; subst h
    exact ⟨rfl, rfl, rfl, rfl, rfl, rfl, rfl⟩
  | a :: r, k + 1, u, h => by
    have ih := evV_at (l := r) (k := k) (x := u) (by simpa using h)
    have e : evV (a :: r) = .int .i64 a.nod :: .int .i64 a.seq :: .int .i64 a.stm :: .int .i64 a.knd :: .int .i64 a.par :: .int .i64 a.aa :: .int .i64 a.bb :: evV r := rfl
    rw [e, show (k + 1) * 7 = k * 7 + 1 + 1 + 1 + 1 + 1 + 1 + 1 by omega]
    exact ⟨by simpa using ih.1, by simpa using ih.2.1, by simpa using ih.2.2.1, by simpa using ih.2.2.2.1, by simpa using ih.2.2.2.2.1, by simpa using ih.2.2.2.2.2.1, by simpa using ih.2.2.2.2.2.2⟩
theorem evV_nil {l : List Ev} (h : evV l = []) : l = [] := by
  have := congrArg List.length h
  rw [evV_len] at this
  exact List.eq_nil_of_length_eq_zero (by simp only [List.length_nil] at this; omega)
theorem OR.ev {w : World} {base : Nat} {e : TypeId} {A : Option Addr} {l : List Ev} (h : OR w base e A (evV l)) : evL w w.heap.size A l := by
  rcases h with h | ⟨g, cur, rfl, hb, hh, hc⟩
  · exact .inl (evV_nil h)
  · refine .inr ⟨g, 0, rfl, has_lt hh, fun k x hx => ?_⟩
    have := evV_at hx
    rw [Nat.zero_add]
    exact ⟨has_cell hh _ (hc _ _ this.1), has_cell hh _ (hc _ _ this.2.1), has_cell hh _ (hc _ _ this.2.2.1), has_cell hh _ (hc _ _ this.2.2.2.1), has_cell hh _ (hc _ _ this.2.2.2.2.1), has_cell hh _ (hc _ _ this.2.2.2.2.2.1), has_cell hh _ (hc _ _ this.2.2.2.2.2.2)⟩
theorem OI.ev {w : World} {lo hi : Nat} {e : TypeId} {A : Option Addr} {l : List Ev} (h : OI w lo hi e A (evV l)) : evL w w.heap.size A l := h.or_.ev
theorem evV_of {l : List Ev} {cs : Array Value} (h : ∀ j x, j < l.length → l[j]? = some x → cs[j * 7]? = some (.int .i64 x.nod) ∧ cs[j * 7 + 1]? = some (.int .i64 x.seq) ∧ cs[j * 7 + 2]? = some (.int .i64 x.stm) ∧ cs[j * 7 + 3]? = some (.int .i64 x.knd) ∧ cs[j * 7 + 4]? = some (.int .i64 x.par) ∧ cs[j * 7 + 5]? = some (.int .i64 x.aa) ∧ cs[j * 7 + 6]? = some (.int .i64 x.bb)) : ∀ (j : Nat) (u : Value), (evV l)[j]? = some u → cs[j]? = some u := by
  intro j u hu
  have hj : j < 7 * l.length := by have := (List.getElem?_eq_some_iff.1 hu).1; rwa [evV_len] at this
  obtain ⟨q, r, rfl, hr⟩ : ∃ q r, j = q * 7 + r ∧ r < 7 := ⟨j / 7, j % 7, by omega, by omega⟩
  have hq : q < l.length := by omega
  have hx := List.getElem?_eq_getElem hq
  have h1 := evV_at hx
  have h2 := h q _ hq hx
  rcases r with _ | _ | _ | _ | _ | _ | _ | r
  · rw [Nat.add_zero] at hu ⊢; rw [h1.1] at hu; rw [h2.1]; exact hu
  · rw [h1.2.1] at hu; rw [h2.2.1]; exact hu
  · rw [h1.2.2.1] at hu; rw [h2.2.2.1]; exact hu
  · rw [h1.2.2.2.1] at hu; rw [h2.2.2.2.1]; exact hu
  · rw [h1.2.2.2.2.1] at hu; rw [h2.2.2.2.2.1]; exact hu
  · rw [h1.2.2.2.2.2.1] at hu; rw [h2.2.2.2.2.2.1]; exact hu
  · rw [h1.2.2.2.2.2.2] at hu; rw [h2.2.2.2.2.2.2]; exact hu
  · omega
def seqev (k : Int) (m : Nat) : List Ev := (List.range m).map fun (j : Nat) => ⟨k + 7 * (j : Int), k + 7 * (j : Int) + 1, k + 7 * (j : Int) + 1 + 1, k + 7 * (j : Int) + 1 + 1 + 1, k + 7 * (j : Int) + 1 + 1 + 1 + 1, k + 7 * (j : Int) + 1 + 1 + 1 + 1 + 1, k + 7 * (j : Int) + 1 + 1 + 1 + 1 + 1 + 1⟩
theorem szEvent_any (w : World) (A : Option Addr) (n c : Nat) (left : Int) (hn : n ≤ maxLen) (h1 : 0 ≤ left) (h2 : left ≤ 1048576) :
    Calls Tryz.prog 16 #[.slice A n c, .int .i64 left] w fun e w' => e = .returned (.int .i64 (szI left n)) ∧ w' = w := by
  unfold maxLen at hn
  by_cases h : left < n
  · go_enter Tryz.func16, Tryz.ntmps16
    go_wp2
    go_ret
    exact ⟨ret_int (if_pos (by omega)).symm, rfl⟩
  · go_enter Tryz.func16, Tryz.ntmps16
    go_wp2
    go_ret
    exact ⟨ret_int (if_neg (by omega)).symm, rfl⟩
theorem evInfo : (Tryz.prog.info? 99).map (fun i => (i.zero, i.size, i.bytes)) = some (some (.agg #[.int .i64 0, .int .i64 0, .int .i64 0, .int .i64 0, .int .i64 0, .int .i64 0, .int .i64 0]), 7, 56) := by kernel_rfl

theorem toEvent_any (x0 : Int) (x1 : Int) (x2 : Int) (x3 : Int) (x4 : Int) (x5 : Int) (x6 : Int) (w : World) :
    Calls Tryz.prog 44 #[.agg #[.int .i64 x0, .int .i64 x1, .int .i64 x2, .int .i64 x3, .int .i64 x4, .int .i64 x5, .int .i64 x6]] w fun e w' => e = .returned (.agg #[.int .i64 x0, .int .i64 x1, .int .i64 x2, .int .i64 x3, .int .i64 x4, .int .i64 x5, .int .i64 x6]) ∧ Below w.heap.size w w' := by
  go_enter Tryz.func44, Tryz.ntmps44
  go_wp2
  exact bodyPost_ret (v := .agg #[.int .i64 x0, .int .i64 x1, .int .i64 x2, .int .i64 x3, .int .i64 x4, .int .i64 x5, .int .i64 x6]) (by simp [results, Tryz.results44, go_sem]) rfl ⟨rfl, (((Below.refl _ _).alloc (Nat.le_refl _) _).alloc (by simp) _).alloc (by simp; omega) _⟩
theorem eqEvent_any (x0 : Int) (x1 : Int) (x2 : Int) (x3 : Int) (x4 : Int) (x5 : Int) (x6 : Int) (w : World) :
    Calls Tryz.prog 53 #[.agg #[.int .i64 x0, .int .i64 x1, .int .i64 x2, .int .i64 x3, .int .i64 x4, .int .i64 x5, .int .i64 x6], .agg #[.int .i64 x0, .int .i64 x1, .int .i64 x2, .int .i64 x3, .int .i64 x4, .int .i64 x5, .int .i64 x6]] w fun e w' => e = .returned (.bool true) ∧ Below w.heap.size w w' := by
  have hb : Below w.heap.size w ((w.alloc (.cells #[.int .i64 x0, .int .i64 x1, .int .i64 x2, .int .i64 x3, .int .i64 x4, .int .i64 x5, .int .i64 x6] 99)).alloc (.cells #[.int .i64 x0, .int .i64 x1, .int .i64 x2, .int .i64 x3, .int .i64 x4, .int .i64 x5, .int .i64 x6] 99)) := ((Below.refl _ _).alloc (Nat.le_refl _) _).alloc (by simp) _
  have e0 : (x0 != x0) = false := by simp
  have e1 : (x1 != x1) = false := by simp
  have e2 : (x2 != x2) = false := by simp
  have e3 : (x3 != x3) = false := by simp
  have e4 : (x4 != x4) = false := by simp
  have e5 : (x5 != x5) = false := by simp
  have e6 : (x6 != x6) = false := by simp
  go_enter Tryz.func53, Tryz.ntmps53
  go_wp2
  go_ret
  exact ⟨rfl, hb⟩

/-- block g holds the first k of the list, and has room for all of them -/
structure Copiedev (w : World) (g : Nat) (cs : Array Value) (l : List Ev) (k : Nat) : Prop where
  heap : Has w g 99 cs
  size : l.length * 7 ≤ cs.size
  got : ∀ j x, j < k → l[j]? = some x → cs[j * 7]? = some (.int .i64 x.nod) ∧ cs[j * 7 + 1]? = some (.int .i64 x.seq) ∧ cs[j * 7 + 2]? = some (.int .i64 x.stm) ∧ cs[j * 7 + 3]? = some (.int .i64 x.knd) ∧ cs[j * 7 + 4]? = some (.int .i64 x.par) ∧ cs[j * 7 + 5]? = some (.int .i64 x.aa) ∧ cs[j * 7 + 6]? = some (.int .i64 x.bb)
theorem Copiedev.below {w w' : World} {g : Nat} {cs : Array Value} {l : List Ev} {k : Nat} (h : Copiedev w g cs l k) (hb : Below w.heap.size w w') : Copiedev w' g cs l k := ⟨has_call h.heap hb, h.size, h.got⟩
theorem Copiedev.cellAt {w : World} {g : Nat} {cs : Array Value} {l : List Ev} {k j : Nat} (h : Copiedev w g cs l k) (hj : j < l.length * 7) : ∃ u, w.cell? ⟨g, j, none⟩ = some u :=
  ⟨cs[j]'(Nat.lt_of_lt_of_le hj h.size), has_cell h.heap j (Array.getElem?_eq_getElem _)⟩
theorem Copiedev.step {w : World} {g : Nat} {cs : Array Value} {l : List Ev} {k : Nat} (h : Copiedev w g cs l k) {x : Ev} (hx : l[k]? = some x) :
    Copiedev (((((((w.setCell ⟨g, k * 7, none⟩ (.int .i64 x.nod)).setCell ⟨g, k * 7 + 1, none⟩ (.int .i64 x.seq)).setCell ⟨g, k * 7 + 2, none⟩ (.int .i64 x.stm)).setCell ⟨g, k * 7 + 3, none⟩ (.int .i64 x.knd)).setCell ⟨g, k * 7 + 4, none⟩ (.int .i64 x.par)).setCell ⟨g, k * 7 + 5, none⟩ (.int .i64 x.aa)).setCell ⟨g, k * 7 + 6, none⟩ (.int .i64 x.bb)) g (((((((cs.setIfInBounds (k * 7) (.int .i64 x.nod)).setIfInBounds (k * 7 + 1) (.int .i64 x.seq)).setIfInBounds (k * 7 + 2) (.int .i64 x.stm)).setIfInBounds (k * 7 + 3) (.int .i64 x.knd)).setIfInBounds (k * 7 + 4) (.int .i64 x.par)).setIfInBounds (k * 7 + 5) (.int .i64 x.aa)).setIfInBounds (k * 7 + 6) (.int .i64 x.bb)) l (k + 1) := by
  have hlt : k < l.length := (List.getElem?_eq_some_iff.1 hx).1
  have hsz := h.size
  refine ⟨(has_set (has_set (has_set (has_set (has_set (has_set (has_set h.heap _ _) _ _) _ _) _ _) _ _) _ _) _ _), by simpa using h.size, fun j y hj hy => ?_⟩
  by_cases hjk : j = k
  · subst hjk
    obtain rfl : x = y := by rw [hx] at hy; injection hy
    simp only [Array.getElem?_setIfInBounds, Array.size_setIfInBounds]
    refine ⟨?_, ?_, ?_, ?_, ?_, ?_, ?_⟩
    · rw [if_neg (by omega), if_neg (by omega), if_neg (by omega), if_neg (by omega), if_neg (by omega), if_neg (by omega), if_pos trivial, if_pos (by omega)]
    · rw [if_neg (by omega), if_neg (by omega), if_neg (by omega), if_neg (by omega), if_neg (by omega), if_pos trivial, if_pos (by omega)]
    · rw [if_neg (by omega), if_neg (by omega), if_neg (by omega), if_neg (by omega), if_pos trivial, if_pos (by omega)]
    · rw [if_neg (by omega), if_neg (by omega), if_neg (by omega), if_pos trivial, if_pos (by omega)]
    · rw [if_neg (by omega), if_neg (by omega), if_pos trivial, if_pos (by omega)]
    · rw [if_neg (by omega), if_pos trivial, if_pos (by omega)]
    · rw [if_pos trivial, if_pos (by omega)]
  · have := h.got j y (by omega) hy
    simp only [Array.getElem?_setIfInBounds]
    refine ⟨?_, ?_, ?_, ?_, ?_, ?_, ?_⟩
    all_goals rw [if_neg (by omega), if_neg (by omega), if_neg (by omega), if_neg (by omega), if_neg (by omega), if_neg (by omega), if_neg (by omega)]
    · exact this.1
    · exact this.2.1
    · exact this.2.2.1
    · exact this.2.2.2.1
    · exact this.2.2.2.2.1
    · exact this.2.2.2.2.2.1
    · exact this.2.2.2.2.2.2
theorem Copiedev.put {w : World} {g : Nat} {cs : Array Value} {l : List Ev} {k : Nat} (h : Copiedev w g cs l l.length) (hk : k < l.length) (x : Ev) :
    Copiedev (((((((w.setCell ⟨g, k * 7, none⟩ (.int .i64 x.nod)).setCell ⟨g, k * 7 + 1, none⟩ (.int .i64 x.seq)).setCell ⟨g, k * 7 + 2, none⟩ (.int .i64 x.stm)).setCell ⟨g, k * 7 + 3, none⟩ (.int .i64 x.knd)).setCell ⟨g, k * 7 + 4, none⟩ (.int .i64 x.par)).setCell ⟨g, k * 7 + 5, none⟩ (.int .i64 x.aa)).setCell ⟨g, k * 7 + 6, none⟩ (.int .i64 x.bb)) g (((((((cs.setIfInBounds (k * 7) (.int .i64 x.nod)).setIfInBounds (k * 7 + 1) (.int .i64 x.seq)).setIfInBounds (k * 7 + 2) (.int .i64 x.stm)).setIfInBounds (k * 7 + 3) (.int .i64 x.knd)).setIfInBounds (k * 7 + 4) (.int .i64 x.par)).setIfInBounds (k * 7 + 5) (.int .i64 x.aa)).setIfInBounds (k * 7 + 6) (.int .i64 x.bb)) (l.set k x) (l.set k x).length := by
  have hsz := h.size
  refine ⟨(has_set (has_set (has_set (has_set (has_set (has_set (has_set h.heap _ _) _ _) _ _) _ _) _ _) _ _) _ _), by simpa using h.size, fun j y hj hy => ?_⟩
  rw [List.length_set] at hj
  by_cases hjk : j = k
  · subst hjk
    rw [List.getElem?_set_self hk] at hy
    obtain rfl : x = y := by injection hy
    simp only [Array.getElem?_setIfInBounds, Array.size_setIfInBounds]
    refine ⟨?_, ?_, ?_, ?_, ?_, ?_, ?_⟩
    · rw [if_neg (by omega), if_neg (by omega), if_neg (by omega), if_neg (by omega), if_neg (by omega), if_neg (by omega), if_pos trivial, if_pos (by omega)]
    · rw [if_neg (by omega), if_neg (by omega), if_neg (by omega), if_neg (by omega), if_neg (by omega), if_pos trivial, if_pos (by omega)]
    · rw [if_neg (by omega), if_neg (by omega), if_neg (by omega), if_neg (by omega), if_pos trivial, if_pos (by omega)]
    · rw [if_neg (by omega), if_neg (by omega), if_neg (by omega), if_pos trivial, if_pos (by omega)]
    · rw [if_neg (by omega), if_neg (by omega), if_pos trivial, if_pos (by omega)]
    · rw [if_neg (by omega), if_pos trivial, if_pos (by omega)]
    · rw [if_pos trivial, if_pos (by omega)]
  · rw [List.getElem?_set_ne (fun e => hjk e.symm)] at hy
    have := h.got j y hj hy
    simp only [Array.getElem?_setIfInBounds]
    refine ⟨?_, ?_, ?_, ?_, ?_, ?_, ?_⟩
    all_goals rw [if_neg (by omega), if_neg (by omega), if_neg (by omega), if_neg (by omega), if_neg (by omega), if_neg (by omega), if_neg (by omega)]
    · exact this.1
    · exact this.2.1
    · exact this.2.2.1
    · exact this.2.2.2.1
    · exact this.2.2.2.2.1
    · exact this.2.2.2.2.2.1
    · exact this.2.2.2.2.2.2
theorem Copiedev.row {w : World} {g base : Nat} {cs : Array Value} {l : List Ev} (h : Copiedev w g cs l l.length) (hb : base ≤ g) : OR w base 99 (some ⟨g, 0, none⟩) (evV l) :=
  .inr ⟨g, cs, rfl, hb, h.heap, evV_of h.got⟩

theorem makeev_run (m : Nat) (hm : m ≤ 1048576) : ∀ W : World, (Instr.makeSlice 36 (.int .i64 (m : Int)) (.int .i64 (m : Int))).run Tryz.prog W = .ok (.slice (some ⟨W.heap.size, 0, none⟩) m m) (W.alloc (.cells (madeCells #[.int .i64 0, .int .i64 0, .int .i64 0, .int .i64 0, .int .i64 0, .int .i64 0, .int .i64 0] (m * 7)) 99)) := by
  intro W
  obtain ⟨i, hi, hz0, hz1, hz2⟩ := info_parts evInfo
  have := run_make (P := Tryz.prog) W 36 99 i _ Tryz.underlying36 hi hz0 .i64 .i64 (m : Int) (m : Int) (by omega) (by omega) (by rw [hz2]; omega) (by omega)
  simpa [hz1, Value.cells] using this

set_option maxRecDepth 100000 in
set_option maxHeartbeats 2000000 in
theorem toEventS_any (w : World) (B : Nat) (A : Option Addr) (c : Nat) (l : List Ev) (hl : l.length ≤ 1048576) (hB : B ≤ w.heap.size) (hS : evL w B A l) :
    Calls Tryz.prog 22 #[.slice A l.length c] w fun e w' => ∃ A' c', e = .returned (.slice A' l.length c') ∧ OR w' w.heap.size 99 A' (evV l) ∧ Below w.heap.size w w' := by
  have hmk := makeev_run l.length hl
  go_enter Tryz.func22, Tryz.ntmps22
  go_wp2
  go_loopw [4] (fun i wr => ∃ (k : Nat) (cs : Array Value), k ≤ l.length ∧ i = .int .i64 k ∧ Copiedev wr w.heap.size cs l k ∧ Below w.heap.size w wr) (fun i _ => l.length - (intOf i).toNat)
  case atStart => exact ⟨0, _, Nat.zero_le _, rfl, ⟨has_new _ _ _, by simp [size_madeCells], fun j x hj => absurd hj (by omega)⟩, balloc _ _⟩
  case round =>
    obtain ⟨k, cs, hk, rfl, hcp, hb⟩ := hrel
    have HC := Lib.hid hcp; clear hcp
    clear hmk
    have hsz := hb.size
    by_cases hlt : k < l.length
    · obtain ⟨b, off, ⟨x0, x1, x2, x3, x4, x5, x6⟩, rfl, hbB, hx, hc0, hc1, hc2, hc3, hc4, hc5, hc6⟩ := (hS.below (hb.mono hB)).at_ hlt
      have Hx := Lib.hid hx; clear hx
      have HS := Lib.hid hS; clear hS
      dsimp only at hc0 hc1 hc2 hc3 hc4 hc5 hc6
      go_wp2_with fail
      refine (toEvent_any _ _ _ _ _ _ _ _).mono ?_
      rintro e w1 ⟨rfl, hb1⟩
      have hC1 := HC.out.below hb1
      obtain ⟨u0, hu0⟩ := hC1.cellAt (j := k * 7) (by omega)
      obtain ⟨u1, hu1⟩ := hC1.cellAt (j := k * 7 + 1) (by omega)
      obtain ⟨u2, hu2⟩ := hC1.cellAt (j := k * 7 + 2) (by omega)
      obtain ⟨u3, hu3⟩ := hC1.cellAt (j := k * 7 + 3) (by omega)
      obtain ⟨u4, hu4⟩ := hC1.cellAt (j := k * 7 + 4) (by omega)
      obtain ⟨u5, hu5⟩ := hC1.cellAt (j := k * 7 + 5) (by omega)
      obtain ⟨u6, hu6⟩ := hC1.cellAt (j := k * 7 + 6) (by omega)
      have hf0 := has_free hC1.heap (k * 7)
      have hf1 := has_free hC1.heap (k * 7 + 1)
      have hf2 := has_free hC1.heap (k * 7 + 2)
      have hf3 := has_free hC1.heap (k * 7 + 3)
      have hf4 := has_free hC1.heap (k * 7 + 4)
      have hf5 := has_free hC1.heap (k * 7 + 5)
      have hf6 := has_free hC1.heap (k * 7 + 6)
      have hst := hC1.step Hx.out
      have HST := Lib.hid hst; clear hst hC1
      go_wp2
      go_roundw
      case rel => exact ⟨k + 1, _, by omega, by go_num, HST.out, ((((((((hb.trans (hb1.mono hsz)).setCell (Nat.le_refl _) _).setCell (Nat.le_refl _) _).setCell (Nat.le_refl _) _).setCell (Nat.le_refl _) _).setCell (Nat.le_refl _) _).setCell (Nat.le_refl _) _).setCell (Nat.le_refl _) _)⟩
      case measure => simp [intOf]; omega
    · go_wp2
      go_ret
      have hkl : k = l.length := by omega
      subst hkl
      exact ⟨_, _, rfl, HC.out.row (Nat.le_refl _), hb⟩

set_option maxRecDepth 100000 in
set_option maxHeartbeats 2000000 in
theorem eqEventS_any (w : World) (B B' : Nat) (A A' : Option Addr) (c c' : Nat) (l : List Ev) (hl : l.length ≤ maxLen) (hB : B ≤ w.heap.size) (hB' : B' ≤ w.heap.size) (hS : evL w B A l) (hS' : evL w B' A' l) :
    Calls Tryz.prog 28 #[.slice A l.length c, .slice A' l.length c'] w fun e w' => e = .returned (.bool true) ∧ Below w.heap.size w w' := by
  unfold maxLen at hl
  have e0 : ((l.length : Int) != (l.length : Int)) = false := by simp
  go_enter Tryz.func28, Tryz.ntmps28
  go_wp2
  clear e0
  go_loopw [5] (fun i wr => ∃ k : Nat, k ≤ l.length ∧ i = .int .i64 k ∧ Below w.heap.size w wr) (fun i _ => l.length - (intOf i).toNat)
  case atStart => exact ⟨0, Nat.zero_le _, rfl, Below.refl _ _⟩
  case round =>
    obtain ⟨k, hk, rfl, hb⟩ := hrel
    by_cases hlt : k < l.length
    · have hsz := hb.size
      obtain ⟨b, off, x, rfl, hbB, hx, hc0, hc1, hc2, hc3, hc4, hc5, hc6⟩ := (hS.below (hb.mono hB)).at_ hlt
      obtain ⟨b', off', y, rfl, hbB', hy, hd0, hd1, hd2, hd3, hd4, hd5, hd6⟩ := (hS'.below (hb.mono hB')).at_ hlt
      obtain rfl : x = y := by rw [hx] at hy; injection hy
      obtain ⟨x0, x1, x2, x3, x4, x5, x6⟩ := x
      dsimp only at hc0 hc1 hc2 hc3 hc4 hc5 hc6 hd0 hd1 hd2 hd3 hd4 hd5 hd6
      clear hx hy
      have HS := Lib.hid hS; clear hS
      have HS' := Lib.hid hS'; clear hS'
      have hbw : b < wr.heap.size := by omega
      have hbw' : b' < wr.heap.size := by omega
      go_wp2
      go_still_tail 8, (by kernel_rfl)
      change wpList _ _ _ _ _ wr.drew
      go_wp2_with (go_at_call 53; refine (eqEvent_any _ _ _ _ _ _ _ _).mono ?_; rintro e w1 ⟨rfl, hb1⟩)
      go_roundw
      case rel => exact ⟨k + 1, by omega, by go_num, (hb.drew).trans (hb1.mono hsz)⟩
      case measure => simp [intOf]; omega
    · go_wp2
      go_ret
      exact ⟨rfl, hb⟩

end Go.Proofs.YtjpkpfmpjgeeiaaGreat
