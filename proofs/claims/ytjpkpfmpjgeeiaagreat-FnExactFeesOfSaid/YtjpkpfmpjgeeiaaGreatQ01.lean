
/- What every chapter's texts share: endings, and the measure of the laws' sizes. -/
import Derived.Test.YtjpkpfmpjgeeiaaGreatChecked
import Derived.WalkKit
import Derived.Below
import Derived.Lib.Hide
import Derived.IntWalk
import Derived.Deep.QuietTactic
import Derived.BigQuiet
import Derived.Laws.MakeOwn
namespace Go.Proofs.YtjpkpfmpjgeeiaaGreat
theorem l9a {α : Type} {l : List α} {i : Nat} {a : α} : l.toArray.setIfInBounds i a = (l.set i a).toArray := List.setIfInBounds_toArray l i a
theorem l9z {α : Type} {a b : α} {l : List α} : (a :: l).set 0 b = b :: l := rfl
theorem l9s {α : Type} {a b : α} {l : List α} {n : Nat} : (a :: l).set (n + 1) b = a :: l.set n b := rfl
set_option linter.unusedVariables false
theorem ret_bool {a b : Bool} (h : a = b) : Ending.returned (.bool a) = .returned (.bool b) := by rw [h]
theorem ret_int {k : IntKind} {a b : Int} (h : a = b) : Ending.returned (.int k a) = .returned (.int k b) := by rw [h]
/-- in a range -/
def inR (x a b : Int) : Bool := decide (a ≤ x) && decide (x ≤ b)
def inB (x a b : Int) : Bool := decide (a ≤ x) && decide (x ≤ b)
def szI (left : Int) (n : Nat) : Int := if left < n then -1 else left - n
end Go.Proofs.YtjpkpfmpjgeeiaaGreat
namespace Go.Proofs.YtjpkpfmpjgeeiaaGreat
open Go.RowKit
set_option linter.unusedVariables false

/-- A slice of pairs of integers: the value's address A and length reads as the list l, below block B. -/
def SL (w : World) (B : Nat) (A : Option Addr) (l : List (Int × Int)) : Prop :=
  l = [] ∨ ∃ b off, A = some ⟨b, off, none⟩ ∧ b < B ∧ ∀ k x, l[k]? = some x → w.cell? ⟨b, off + k * 2, none⟩ = some (.int .i64 x.1) ∧ w.cell? ⟨b, off + k * 2 + 1, none⟩ = some (.int .i64 x.2)

theorem SL.below {w w' : World} {B : Nat} {A : Option Addr} {l : List (Int × Int)} (h : SL w B A l) (hb : Below B w w') : SL w' B A l := by
  rcases h with h | ⟨b, off, rfl, hlt, hc⟩
  · exact .inl h
  · refine .inr ⟨b, off, rfl, hlt, fun k x hx => ?_⟩
    have := hc k x hx
    exact ⟨(hb.cell (p := ⟨b, off + k * 2, none⟩) hlt).trans this.1, (hb.cell (p := ⟨b, off + k * 2 + 1, none⟩) hlt).trans this.2⟩

theorem SL.at_ {w : World} {B : Nat} {A : Option Addr} {l : List (Int × Int)} (h : SL w B A l) {k : Nat} (hk : k < l.length) :
    ∃ b off x0 x1, A = some ⟨b, off, none⟩ ∧ b < B ∧ l[k]? = some (x0, x1) ∧ w.cell? ⟨b, off + k * 2, none⟩ = some (.int .i64 x0) ∧ w.cell? ⟨b, off + k * 2 + 1, none⟩ = some (.int .i64 x1) := by
  rcases h with h | ⟨b, off, rfl, hlt, hc⟩
  · subst h; simp at hk
  · exact ⟨b, off, _, _, rfl, hlt, List.getElem?_eq_getElem hk, hc k _ (List.getElem?_eq_getElem hk)⟩

/-- the hour h lies in the span -/
def inSpan (h : Int) (s : Int × Int) : Bool := decide (s.1 ≤ h) && decide (h < s.2)
def withinB (l : List (Int × Int)) (h : Int) : Bool := l.any (inSpan h)

/-- what inSpans looks for: the first span that ends behind the hour decides -/
def firstB : List (Int × Int) → Int → Bool
  | [], _ => false
  | s :: r, h => if h < s.2 then decide (s.1 ≤ h) else firstB r h
end Go.Proofs.YtjpkpfmpjgeeiaaGreat
namespace Go.Proofs.YtjpkpfmpjgeeiaaGreat
open Go.RowKit
set_option linter.unusedVariables false

theorem sz_any (w : World) (A : Option Addr) (n c : Nat) (left : Int) (hn : n ≤ maxLen) (h1 : 0 ≤ left) (h2 : left ≤ 1048576) :
    Calls Tryz.prog 101 #[.slice A n c, .int .i64 left] w fun e w' => e = .returned (.int .i64 (szI left n)) ∧ w' = w := by
  unfold maxLen at hn
  by_cases h : left < n
  · go_enter Tryz.func101, Tryz.ntmps101
    go_wp2
    go_ret
    exact ⟨ret_int (if_pos (by omega)).symm, rfl⟩
  · go_enter Tryz.func101, Tryz.ntmps101
    go_wp2
    go_ret
    exact ⟨ret_int (if_neg (by omega)).symm, rfl⟩

theorem eqSpan_any (x0 x1 y0 y1 : Int) (w : World) :
    Calls Tryz.prog 147 #[.agg #[.int .i64 x0, .int .i64 x1], .agg #[.int .i64 y0, .int .i64 y1]] w fun e w' => e = .returned (.bool (decide (x0 = y0) && decide (x1 = y1))) ∧ Below w.heap.size w w' := by
  have hb : Below w.heap.size w ((w.alloc (.cells #[.int .i64 x0, .int .i64 x1] 169)).alloc (.cells #[.int .i64 y0, .int .i64 y1] 169)) := ((Below.refl _ _).alloc (Nat.le_refl _) _).alloc (by simp) _
  by_cases h0 : x0 = y0
  · subst h0
    by_cases h1 : x1 = y1
    · subst h1
      have e0 : (x0 != x0) = false := by simp
      have e1 : (x1 != x1) = false := by simp
      go_enter Tryz.func147, Tryz.ntmps147
      go_wp2
      go_ret
      exact ⟨ret_bool (by simp), hb⟩
    · have e0 : (x0 != x0) = false := by simp
      have e1 : (x1 != y1) = true := by simpa using h1
      go_enter Tryz.func147, Tryz.ntmps147
      go_wp2
      go_ret
      exact ⟨ret_bool (by simp [h1]), hb⟩
  · have e0 : (x0 != y0) = true := by simpa using h0
    go_enter Tryz.func147, Tryz.ntmps147
    go_wp2
    go_ret
    exact ⟨ret_bool (by simp [h0]), hb⟩

end Go.Proofs.YtjpkpfmpjgeeiaaGreat
namespace Go.Proofs.YtjpkpfmpjgeeiaaGreat
open Go.RowKit
set_option linter.unusedVariables false

/-- block g holds just these cells, none of them shared with a string -/
def Has (w : World) (g : Nat) (t : TypeId) (cs : Array Value) : Prop := w.heap[g]? = some (.cells cs t (0, 0))
theorem has_lt {w : World} {g : Nat} {t : TypeId} {cs : Array Value} (h : Has w g t cs) : g < w.heap.size := by
  rcases Nat.lt_or_ge g w.heap.size with hlt | hge
  · exact hlt
  · unfold Has at h; rw [Array.getElem?_eq_none hge] at h; cases h
theorem has_cell {w : World} {g : Nat} {t : TypeId} {cs : Array Value} (h : Has w g t cs) (i : Nat) {v : Value} (hv : cs[i]? = some v) : w.cell? ⟨g, i, none⟩ = some v := (cell_of_row w g i cs t (0, 0) h).trans hv
theorem has_free {w : World} {g : Nat} {t : TypeId} {cs : Array Value} (h : Has w g t cs) (i : Nat) : w.frozen? ⟨g, i, none⟩ = false := by
  unfold Has at h; simp [World.frozen?, h]
theorem has_new (w : World) (t : TypeId) (cs : Array Value) : Has (w.alloc (.cells cs t)) w.heap.size t cs := heap_alloc_new w _
theorem has_alloc {w : World} {g : Nat} {t : TypeId} {cs : Array Value} (h : Has w g t cs) (o : Obj) : Has (w.alloc o) g t cs := (Below.heap_alloc w o g (has_lt h)).trans h
theorem has_below {w w' : World} {B g : Nat} {t : TypeId} {cs : Array Value} (h : Has w g t cs) (hb : Below B w w') (hg : g < B) : Has w' g t cs := (hb.block g hg).trans h
theorem has_call {w w' : World} {g : Nat} {t : TypeId} {cs : Array Value} (h : Has w g t cs) (hb : Below w.heap.size w w') : Has w' g t cs := has_below h hb (has_lt h)
theorem has_set {w : World} {g : Nat} {t : TypeId} {cs : Array Value} (h : Has w g t cs) (i : Nat) (v : Value) : Has (w.setCell ⟨g, i, none⟩ v) g t (cs.setIfInBounds i v) := by
  unfold Has at h ⊢
  simp [World.setCell, Array.getElem?_modify, h]
theorem has_far {w : World} {g : Nat} {t : TypeId} {cs : Array Value} (h : Has w g t cs) {p : Addr} (hp : g ≠ p.block) (v : Value) : Has (w.setCell p v) g t cs := (Below.heap_setCell w p v g hp).trans h
theorem has_drew {w : World} {g : Nat} {t : TypeId} {cs : Array Value} (h : Has w g t cs) : Has w.drew g t cs := h
theorem bthen {a b c : World} (h : Below a.heap.size a b) (k : Below b.heap.size b c) : Below a.heap.size a c := h.trans (k.mono h.size)
theorem bold {W W1 : World} (hb : Below W.heap.size W W1) (b o : Nat) (h : b < W.heap.size) : W1.cell? ⟨b, o, none⟩ = W.cell? ⟨b, o, none⟩ := hb.cell (p := ⟨b, o, none⟩) h
theorem balloc (w : World) (o : Obj) : Below w.heap.size w (w.alloc o) := (Below.refl _ _).alloc (Nat.le_refl _) _
theorem size_set (w : World) (p : Addr) (u : Value) : (w.setCell p u).heap.size = w.heap.size := by simp [World.setCell]
/-- only the cursor's block has changed, and new ones have come -/
def Only (w : World) (g : Nat) (w' : World) : Prop := w.grownBy w' (some g)
theorem only_below {a w : World} {g B : Nat} (h : Only a g w) (hB : B ≤ a.heap.size) (hg : B ≤ g) : Below B a w :=
  ⟨h.os, h.tape, h.output, h.size, fun k hk => h.block k (by omega) (fun e => by injection e; omega)⟩
theorem below_drewN {B : Nat} {a w : World} (h : Below B a w) (n : Nat) : Below B a (w.drewN n) := ⟨h.os, h.tape, h.output, h.size, h.block⟩
end Go.Proofs.YtjpkpfmpjgeeiaaGreat
namespace Go.Proofs.YtjpkpfmpjgeeiaaGreat
open Go.RowKit
set_option linter.unusedVariables false

structure Bx where
  low : Int
  size : Int
  par : Int
  jam : Bool
def lowAt (L : List Bx) (k : Nat) : Int := ((L.take k).map Bx.size).sum
theorem lowAt_zero (L : List Bx) : lowAt L 0 = 0 := rfl
theorem lowAt_succ {L : List Bx} {k : Nat} {x : Bx} (h : L[k]? = some x) : lowAt L (k + 1) = lowAt L k + x.size := by
  unfold lowAt; rw [List.take_add_one, h]; simp
def BoxAt (L : List Bx) (k : Nat) (x : Bx) : Prop := x.low = lowAt L k ∧ 1 ≤ x.size ∧ 0 ≤ x.par ∧ x.par ≤ 999
def BoxesTo (L : List Bx) (n : Nat) : Prop := ∀ k x, k < n → L[k]? = some x → BoxAt L k x
theorem boxesTo_succ {L : List Bx} {n : Nat} {x : Bx} (h : BoxesTo L n) (hx : L[n]? = some x) (hb : BoxAt L n x) : BoxesTo L (n + 1) := fun k y hk hy => by
  by_cases e : k = n
  · subst e; rw [hx] at hy; injection hy with hy; subst hy; exact hb
  · exact h k y (by omega) hy
/-- the lowest units ascend -/
theorem lowAt_mono {L : List Bx} {n : Nat} (h : BoxesTo L n) : ∀ d i, i + d ≤ n → n ≤ L.length → lowAt L i + d ≤ lowAt L (i + d)
  | 0, i, _, _ => by simp
  | d + 1, i, hi, hn => by
    have ih := lowAt_mono h d i (by omega) hn
    have hx : L[i + d]? = some L[i + d] := List.getElem?_eq_getElem (by omega)
    have := (h (i + d) _ (by omega) hx).2.1
    have := lowAt_succ hx
    rw [← Nat.add_assoc]; push_cast; omega
structure FixOk (h : Int) (F : List Int) : Prop where
  lo : 1 ≤ h
  hi : h ≤ 24
  fix : ∀ (k : Nat) (x : Int), F[k]? = some x → 1 ≤ x ∧ x < h
  asc : ∀ (k : Nat) (x y : Int), F[k]? = some x → F[k + 1]? = some y → x < y
/-- no parcel above 0 stands twice -/
def Dis (P : List Int) : Prop := P.Pairwise fun a b => 0 < b → a ≠ b
theorem dis_snoc (P : List Int) (p : Int) : Dis (P ++ [p]) ↔ Dis P ∧ (0 < p → p ∉ P) := by
  unfold Dis
  rw [List.pairwise_append]
  simp only [List.pairwise_cons, List.not_mem_nil, false_implies, implies_true, List.Pairwise.nil, and_true, true_and, List.mem_singleton, forall_eq]
  constructor
  · rintro ⟨h1, h2⟩; exact ⟨h1, fun hp hm => h2 p hm hp rfl⟩
  · rintro ⟨h1, h2⟩; exact ⟨h1, fun a ha hp e => h2 hp (e ▸ ha)⟩
theorem dis_init {P Q : List Int} (h : Dis (P ++ Q)) : Dis P := by
  unfold Dis at *; exact (List.pairwise_append.1 h).1
structure ColOk (h : Int) (F : List Int) (L : List Bx) : Prop where
  fix : FixOk h F
  box : BoxesTo L L.length
  top : lowAt L L.length = h
  wall : ∀ x ∈ F, ∃ b ∈ L, b.low = x
  diff : Dis (L.map Bx.par)
theorem asc_lt {F : List Int} (h : ∀ (k : Nat) (x y : Int), F[k]? = some x → F[k + 1]? = some y → x < y) : ∀ (d i : Nat) (x y : Int), F[i]? = some x → F[i + (d + 1)]? = some y → x < y
  | 0, i, x, y, hx, hy => h i x y hx hy
  | d + 1, i, x, y, hx, hy => by
    have hl : i + (d + 1 + 1) < F.length := (List.getElem?_eq_some_iff.1 hy).1
    have hm : F[i + (d + 1)]? = some F[i + (d + 1)] := List.getElem?_eq_getElem (by omega)
    have h1 := asc_lt h d i x _ hx hm
    have h2 := h (i + (d + 1)) _ y hm (by rw [← hy]; congr 1)
    omega
theorem asc_nodup {F : List Int} (h : ∀ (k : Nat) (x y : Int), F[k]? = some x → F[k + 1]? = some y → x < y) : F.Nodup := by
  rw [List.nodup_iff_pairwise_ne, List.pairwise_iff_getElem]
  intro i j hi hj hij
  have := asc_lt h (j - i - 1) i F[i] F[j] (List.getElem?_eq_getElem hi) (by rw [← List.getElem?_eq_getElem hj]; congr 1; omega)
  omega
/-- how many of the numbers are in the other list -/
def cntIn (F : List Int) (X : List Int) : Nat := X.countP (fun x => F.contains x)
theorem cntIn_le : ∀ (X F : List Int), X.Nodup → F.Nodup → cntIn F X ≤ F.length ∧ (cntIn F X = F.length ↔ ∀ x ∈ F, x ∈ X)
  | [], F, _, _ => by
    refine ⟨Nat.zero_le _, ?_⟩
    constructor
    · intro h x hx
      have : F.length = 0 := h.symm
      rw [List.eq_nil_of_length_eq_zero this] at hx; cases hx
    · intro h
      rcases F with _ | ⟨a, r⟩
      · rfl
      · exact absurd (h a List.mem_cons_self) (by simp)
  | a :: X, F, hX, hF => by
    have ha : a ∉ X := (List.nodup_cons.1 hX).1
    have hX' := (List.nodup_cons.1 hX).2
    by_cases hm : a ∈ F
    · have ih := cntIn_le X (F.erase a) hX' (hF.erase a)
      have e1 : cntIn F (a :: X) = cntIn (F.erase a) X + 1 := by
        unfold cntIn
        rw [List.countP_cons_of_pos (by simpa using hm)]
        congr 1
        apply List.countP_congr
        intro x hx
        have hne : x ≠ a := fun e => ha (e ▸ hx)
        simp [List.mem_erase_of_ne hne]
      have e2 : (F.erase a).length = F.length - 1 := List.length_erase_of_mem hm
      have e3 : 0 < F.length := List.length_pos_of_mem hm
      refine ⟨by omega, ?_⟩
      rw [e1]
      constructor
      · intro h x hx
        by_cases hxa : x = a
        · rw [hxa]; exact List.mem_cons_self
        · exact List.mem_cons_of_mem _ (ih.2.1 (by omega) x ((List.mem_erase_of_ne hxa).2 hx))
      · intro h
        have := ih.2.2 fun x hx => by
          have hxF := List.mem_of_mem_erase hx
          have hne : x ≠ a := fun e => by subst e; exact (List.Nodup.not_mem_erase hF) hx
          rcases List.mem_cons.1 (h x hxF) with e | e
          · exact absurd e hne
          · exact e
        omega
    · have ih := cntIn_le X F hX' hF
      have e1 : cntIn F (a :: X) = cntIn F X := by
        unfold cntIn
        rw [List.countP_cons_of_neg (by simpa using hm)]
      rw [e1]
      refine ⟨ih.1, ih.2.trans ?_⟩
      constructor
      · intro h x hx; exact List.mem_cons_of_mem _ (h x hx)
      · intro h x hx
        rcases List.mem_cons.1 (h x hx) with e | e
        · exact absurd (e ▸ hx) hm
        · exact e
/-- the walls: as many boxes have their lowest unit in the list as it has numbers -/
def wallsTo (F : List Int) (L : List Bx) (k : Nat) : Nat := cntIn F ((L.take k).map Bx.low)
theorem wallsTo_succ {F : List Int} {L : List Bx} {k : Nat} {x : Bx} (h : L[k]? = some x) : wallsTo F L (k + 1) = wallsTo F L k + if F.contains x.low then 1 else 0 := by
  unfold wallsTo cntIn; rw [List.take_add_one, h]; simp [List.countP_append, List.countP_cons]
theorem walls_iff {h : Int} {F : List Int} {L : List Bx} (hF : FixOk h F) (hb : BoxesTo L L.length) : wallsTo F L L.length = F.length ↔ ∀ x ∈ F, ∃ b ∈ L, b.low = x := by
  unfold wallsTo
  rw [List.take_length]
  have hn : (L.map Bx.low).Nodup := by
    rw [List.nodup_iff_pairwise_ne, List.pairwise_iff_getElem]
    intro i j hi hj hij
    simp only [List.length_map] at hi hj
    simp only [List.getElem_map]
    rw [(hb i _ hi (List.getElem?_eq_getElem hi)).1, (hb j _ hj (List.getElem?_eq_getElem hj)).1]
    have := lowAt_mono hb (j - i) i (by omega) (Nat.le_refl _)
    rw [show i + (j - i) = j by omega] at this
    omega
  rw [(cntIn_le _ F hn (asc_nodup hF.asc)).2]
  simp
theorem size_le {L : List Bx} {h : Int} (hb : BoxesTo L L.length) (ht : lowAt L L.length = h) {k : Nat} {x : Bx} (hx : L[k]? = some x) : lowAt L (k + 1) ≤ h ∧ x.size ≤ h ∧ 0 ≤ lowAt L k := by
  have hk : k < L.length := (List.getElem?_eq_some_iff.1 hx).1
  have h1 := lowAt_mono hb (L.length - (k + 1)) (k + 1) (by omega) (Nat.le_refl _)
  rw [show k + 1 + (L.length - (k + 1)) = L.length by omega, ht] at h1
  have h2 := lowAt_mono hb k 0 (by omega) (Nat.le_refl _)
  rw [Nat.zero_add, lowAt_zero] at h2
  have h3 := lowAt_succ hx
  omega
theorem pars_succ {L : List Bx} {k : Nat} {x : Bx} (hx : L[k]? = some x) : (L.take (k + 1)).map Bx.par = (L.take k).map Bx.par ++ [x.par] := by
  rw [List.take_add_one, hx]; simp
theorem dis_take {L : List Bx} (h : Dis (L.map Bx.par)) (k : Nat) : Dis ((L.take k).map Bx.par) := by
  have : L.map Bx.par = (L.take k).map Bx.par ++ (L.drop k).map Bx.par := by rw [← List.map_append, List.take_append_drop]
  rw [this] at h; exact dis_init h

/-- a slice of numbers reads as the list, below block B -/
def IL (w : World) (B : Nat) (A : Option Addr) (l : List Int) : Prop :=
  l = [] ∨ ∃ b off, A = some ⟨b, off, none⟩ ∧ b < B ∧ ∀ k x, l[k]? = some x → w.cell? ⟨b, off + k, none⟩ = some (.int .i64 x)
theorem IL.below {w w' : World} {B : Nat} {A : Option Addr} {l : List Int} (h : IL w B A l) (hb : Below B w w') : IL w' B A l := by
  rcases h with h | ⟨b, off, rfl, hlt, hc⟩
  · exact .inl h
  · exact .inr ⟨b, off, rfl, hlt, fun k x hx => (hb.cell (p := ⟨b, off + k, none⟩) hlt).trans (hc k x hx)⟩
theorem IL.at_ {w : World} {B : Nat} {A : Option Addr} {l : List Int} (h : IL w B A l) {k : Nat} (hk : k < l.length) :
    ∃ b off x, A = some ⟨b, off, none⟩ ∧ b < B ∧ l[k]? = some x ∧ w.cell? ⟨b, off + k, none⟩ = some (.int .i64 x) := by
  rcases h with h | ⟨b, off, rfl, hlt, hc⟩
  · subst h; simp at hk
  · exact ⟨b, off, _, rfl, hlt, List.getElem?_eq_getElem hk, hc k _ (List.getElem?_eq_getElem hk)⟩
theorem IL.later {w w' : World} {B : Nat} {A : Option Addr} {l : List Int} (h : IL w B A l) (hB : B ≤ w.heap.size) (hb : Below w.heap.size w w') : IL w' B A l := h.below (hb.mono hB)
theorem IL.more {w : World} {B B' : Nat} {A : Option Addr} {l : List Int} (h : IL w B A l) (hB : B ≤ B') : IL w B' A l := by
  rcases h with h | ⟨b, off, rfl, hlt, hc⟩
  · exact .inl h
  · exact .inr ⟨b, off, rfl, by omega, hc⟩
/-- a slice of boxes reads as the list, below block B -/
def XL (w : World) (B : Nat) (A : Option Addr) (l : List Bx) : Prop :=
  l = [] ∨ ∃ b off, A = some ⟨b, off, none⟩ ∧ b < B ∧ ∀ k x, l[k]? = some x → w.cell? ⟨b, off + k * 4, none⟩ = some (.int .i64 x.low) ∧ w.cell? ⟨b, off + k * 4 + 1, none⟩ = some (.int .i64 x.size) ∧ w.cell? ⟨b, off + k * 4 + 2, none⟩ = some (.int .i64 x.par) ∧ w.cell? ⟨b, off + k * 4 + 3, none⟩ = some (.bool x.jam)
theorem XL.below {w w' : World} {B : Nat} {A : Option Addr} {l : List Bx} (h : XL w B A l) (hb : Below B w w') : XL w' B A l := by
  rcases h with h | ⟨b, off, rfl, hlt, hc⟩
  · exact .inl h
  · refine .inr ⟨b, off, rfl, hlt, fun k x hx => ?_⟩
    have := hc k x hx
    exact ⟨(hb.cell (p := ⟨b, off + k * 4, none⟩) hlt).trans this.1, (hb.cell (p := ⟨b, off + k * 4 + 1, none⟩) hlt).trans this.2.1, (hb.cell (p := ⟨b, off + k * 4 + 2, none⟩) hlt).trans this.2.2.1, (hb.cell (p := ⟨b, off + k * 4 + 3, none⟩) hlt).trans this.2.2.2⟩
theorem XL.at_ {w : World} {B : Nat} {A : Option Addr} {l : List Bx} (h : XL w B A l) {k : Nat} (hk : k < l.length) :
    ∃ b off x, A = some ⟨b, off, none⟩ ∧ b < B ∧ l[k]? = some x ∧ w.cell? ⟨b, off + k * 4, none⟩ = some (.int .i64 x.low) ∧ w.cell? ⟨b, off + k * 4 + 1, none⟩ = some (.int .i64 x.size) ∧ w.cell? ⟨b, off + k * 4 + 2, none⟩ = some (.int .i64 x.par) ∧ w.cell? ⟨b, off + k * 4 + 3, none⟩ = some (.bool x.jam) := by
  rcases h with h | ⟨b, off, rfl, hlt, hc⟩
  · subst h; simp at hk
  · exact ⟨b, off, _, rfl, hlt, List.getElem?_eq_getElem hk, hc k _ (List.getElem?_eq_getElem hk)⟩
theorem XL.later {w w' : World} {B : Nat} {A : Option Addr} {l : List Bx} (h : XL w B A l) (hB : B ≤ w.heap.size) (hb : Below w.heap.size w w') : XL w' B A l := h.below (hb.mono hB)
theorem XL.more {w : World} {B B' : Nat} {A : Option Addr} {l : List Bx} (h : XL w B A l) (hB : B ≤ B') : XL w B' A l := by
  rcases h with h | ⟨b, off, rfl, hlt, hc⟩
  · exact .inl h
  · exact .inr ⟨b, off, rfl, by omega, hc⟩
/-- the answer is a test whose truth is p -/
def Tells (p : Prop) (w : World) (e : Ending) (w' : World) : Prop := ∃ b : Bool, e = .returned (.bool b) ∧ (b = true ↔ p) ∧ Below w.heap.size w w'
theorem tells_yes {p : Prop} {w w' : World} (h : p) (hb : Below w.heap.size w w') : Tells p w (.returned (.bool true)) w' := ⟨true, rfl, by simp [h], hb⟩
theorem tells_no {p : Prop} {w w' : World} (h : ¬ p) (hb : Below w.heap.size w w') : Tells p w (.returned (.bool false)) w' := ⟨false, rfl, by simp [h], hb⟩
end Go.Proofs.YtjpkpfmpjgeeiaaGreat
