/- Chapter 2: rows in ranges of blocks; marking the rows of a column, and reading the marks. -/
import Derived.Test.YtodomhmadfnogaaBoxM
import Derived.Test.YtodomhmadfnogaaColD
import Derived.Test.YtodomhmadfnogaaColC
namespace Go.Proofs.Ytodomhmadfnogaa
open Go.RowKit
set_option linter.unusedVariables false

/-- the row lies in a block of its own, at or behind lo and before hi -/
def OI (w : World) (lo hi : Nat) (e : TypeId) (A : Option Addr) (xs : List Value) : Prop :=
  xs = [] ∨ ∃ g cur, A = some ⟨g, 0, none⟩ ∧ lo ≤ g ∧ g < hi ∧ Has w g e cur ∧ ∀ (j : Nat) (u : Value), xs[j]? = some u → cur[j]? = some u
/-- outside of the range of blocks all is as it was -/
def Within (lo hi : Nat) (w w' : World) : Prop := Below 0 w w' ∧ ∀ k, k < w.heap.size → (k < lo ∨ hi ≤ k) → w'.heap[k]? = w.heap[k]?
section
variable {w w' w2 : World} {lo hi a b B base g : Nat} {e e' t : TypeId} {A A' : Option Addr} {xs ys : List Value} {cs : Array Value}
theorem OI.of_or (h : OR w lo e A xs) : OI w lo w.heap.size e A xs := by
  rcases h with h | ⟨g, cur, rfl, hb, hh, hc⟩
  · exact .inl h
  · exact .inr ⟨g, cur, rfl, hb, has_lt hh, hh, hc⟩
theorem OI.or_ (h : OI w lo hi e A xs) : OR w lo e A xs := by
  rcases h with h | ⟨g, cur, rfl, hb, _, hh, hc⟩
  · exact .inl h
  · exact .inr ⟨g, cur, rfl, hb, hh, hc⟩
theorem OI.il {l : List Int} (h : OI w lo hi e A (intV l)) : IL w w.heap.size A l := h.or_.il
theorem OI.xl {l : List Bx} (h : OI w lo hi e A (boxV l)) : XL w w.heap.size A l := h.or_.xl
theorem Within.of_below (h : Below w.heap.size w w') : Within lo hi w w' := ⟨⟨h.os, h.tape, h.output, h.size, fun k hk => absurd hk (by omega)⟩, fun k hk _ => h.block k hk⟩
theorem Within.size (h : Within lo hi w w') : w.heap.size ≤ w'.heap.size := h.1.size
theorem Within.below (h : Within lo hi w w') (hB : B ≤ lo) (hB' : B ≤ w.heap.size) : Below B w w' := ⟨h.1.os, h.1.tape, h.1.output, h.1.size, fun k hk => h.2 k (by omega) (.inl (by omega))⟩
theorem Within.trans (h : Within lo hi w w') (h' : Within lo hi w' w2) : Within lo hi w w2 := ⟨h.1.trans h'.1, fun k hk ho => (h'.2 k (by have := h.1.size; omega) ho).trans (h.2 k hk ho)⟩
theorem Within.has (h : Within lo hi w w') (hH : Has w g t cs) (ho : g < lo ∨ hi ≤ g) : Has w' g t cs := (h.2 g (has_lt hH) ho).trans hH
theorem Within.oi (h : Within lo hi w w') (hO : OI w a b e A xs) (ho : b ≤ lo ∨ hi ≤ a) : OI w' a b e A xs := by
  rcases hO with hO | ⟨g, cur, rfl, h1, h2, hh, hc⟩
  · exact .inl hO
  · exact .inr ⟨g, cur, rfl, h1, h2, h.has hh (by omega), hc⟩
theorem OI.call (h : OI w a b e A xs) (hb : Below w.heap.size w w') : OI w' a b e A xs := by
  rcases h with hO | ⟨g, cur, rfl, h1, h2, hh, hc⟩
  · exact .inl hO
  · exact .inr ⟨g, cur, rfl, h1, h2, has_call hh hb, hc⟩
theorem within_marks (h : OI w lo hi e A xs) (m : Marks w base e A xs w') : Within lo hi w w' := by
  rcases m with ⟨_, rfl⟩ | ⟨hne, g, cur, rfl, hb, hh, ho⟩
  · exact Within.of_below (Below.refl _ _)
  · rcases h with h | ⟨g', cur', e1, h1, h2, _, _⟩
    · exact absurd h hne
    · injection e1 with e1; injection e1 with e1; subst e1
      exact ⟨⟨ho.os, ho.tape, ho.output, ho.size, fun k hk => absurd hk (by omega)⟩, fun k hk hk' => ho.block k hk (fun e => by injection e; omega)⟩
theorem oi_marked (h : OI w lo hi e A xs) (h' : OR w' base e A ys) (hy : xs = [] → ys = []) : OI w' lo hi e A ys := by
  rcases h with h | ⟨g, cur, rfl, h1, h2, _, _⟩
  · exact .inl (hy h)
  · rcases h' with h' | ⟨g', cur', e1, _, hh, hc⟩
    · exact .inl h'
    · injection e1 with e1; injection e1 with e1; subst e1
      exact .inr ⟨g, cur', rfl, h1, h2, hh, hc⟩
theorem oi_other (h : OI w a b e A xs) (m : Marks w base e' A' ys w') (hne : e ≠ e') : OI w' a b e A xs := by
  rcases m with ⟨_, rfl⟩ | ⟨_, g', cur', rfl, hb', hh', ho⟩
  · exact h
  · rcases h with h | ⟨g, cur, rfl, h1, h2, hh, hc⟩
    · exact .inl h
    · have hgg : g ≠ g' := fun eq => by
        subst eq
        have := hh.symm.trans hh'
        injection this with this; injection this with _ this _
        exact hne this
      exact .inr ⟨g, cur, rfl, h1, h2, (ho.block g (has_lt hh) (fun eq => hgg (by injection eq))).trans hh, hc⟩
end
theorem intV_seq {l : List Int} {k : Int} (h : intV l = []) : intV (seqI k l.length) = [] := by rw [intV_nil h]; rfl
theorem boxV_seq {l : List Bx} {k : Int} (h : boxV l = []) : boxV (seqB k l.length) = [] := by rw [boxV_nil h]; rfl

set_option maxRecDepth 100000 in
set_option maxHeartbeats 1000000 in
theorem markCol_any (w : World) (lo hi : Nat) (z : Int) (A A' : Option Addr) (n n' : Nat) (F : List Int) (L : List Bx) (k0 : Int) (lf : F.length ≤ 1048576) (lb : L.length ≤ 1048576) (h0 : 0 ≤ k0) (h1 : k0 ≤ 10) (hF : OI w lo hi 3 A (intV F)) (hL : OI w lo hi 52 A' (boxV L)) :
    Calls Try.prog 13 #[.agg #[.int .i64 z, .slice A F.length n, .slice A' L.length n'], .int .i64 k0] w fun e w' => e = .returned (.int .i64 (k0 + (F.length : Int) + 4 * (L.length : Int))) ∧ OI w' lo hi 3 A (intV (seqI k0 F.length)) ∧ OI w' lo hi 52 A' (boxV (seqB (k0 + (F.length : Int)) L.length)) ∧ Within lo hi w w' := by
  go_enter Try.func13, Try.ntmps13
  go_wp2_with fail
  generalize hW0 : (w.alloc (.cells #[.int .i64 z, .slice A F.length n, .slice A' L.length n'] 31)) = w0
  have b0 : Below w.heap.size w w0 := by rw [← hW0]; exact balloc _ _
  have k0' : Has w0 w.heap.size 31 #[.int .i64 z, .slice A F.length n, .slice A' L.length n'] := by rw [← hW0]; exact has_new _ _ _
  clear hW0
  have hF0 := hF.call b0
  have hL0 := hL.call b0
  have HF := Lib.hid hF0; have HL := Lib.hid hL0; clear hF hL hF0 hL0
  have K0 := Lib.hid k0'; clear k0'
  refine (markInt_any w0 lo A n F k0 lf h0 (by omega) HF.out.or_).mono ?_
  rintro e w1 ⟨rfl, hm1, hk1⟩
  have hw1 := within_marks HF.out hk1
  have hF1 := oi_marked HF.out hm1 intV_seq
  have hL1 := oi_other HL.out hk1 (by decide)
  have k1 : Has w1 w.heap.size 31 #[.int .i64 z, .slice A F.length n, .slice A' L.length n'] := by
    rcases hk1 with ⟨_, rfl⟩ | ⟨_, g', cur', rfl, hb', hh', ho⟩
    · exact K0.out
    · refine (ho.block _ (has_lt K0.out) (fun eq => ?_)).trans K0.out
      have hg : w.heap.size = g' := by injection eq
      subst hg
      have := K0.out.symm.trans hh'
      injection this with this; injection this with _ this _
      exact absurd this (by decide)
  have HK1 := Lib.hid hk1; clear hk1
  have e2 := has_cell k1 2 rfl
  have HW1 := Lib.hid hw1; have HF1 := Lib.hid hF1; have HL1 := Lib.hid hL1; clear hw1 hF1 hL1 hm1
  have K1 := Lib.hid k1; clear k1
  go_wp2_with fail
  clear e2
  refine (markBox_any w1 lo A' n' L (k0 + (F.length : Int)) lb (by omega) (by omega) HL1.out.or_).mono ?_
  rintro e w2 ⟨rfl, hm2, hk2⟩
  have hw2 := within_marks HL1.out hk2
  have hF2 := oi_other HF1.out hk2 (by decide)
  have hL2 := oi_marked HL1.out hm2 boxV_seq
  have hfin : OI w2 lo hi 3 A (intV (seqI k0 F.length)) ∧ OI w2 lo hi 52 A' (boxV (seqB (k0 + (F.length : Int)) L.length)) ∧ Within lo hi w w2 := ⟨hF2, hL2, ((Within.of_below b0).trans HW1.out).trans hw2⟩
  have HFIN := Lib.hid hfin; clear hfin hw2 hF2 hL2 hm2 hk2
  go_wp2_with fail
  go_ret
  exact ⟨rfl, HFIN.out⟩

set_option maxRecDepth 100000 in
set_option maxHeartbeats 1000000 in
theorem heldCol_any (w : World) (B : Nat) (z : Int) (A A' : Option Addr) (n n' f l : Nat) (k0 : Int) (lf : f ≤ 1048576) (lb : l ≤ 1048576) (h0 : 0 ≤ k0) (h1 : k0 ≤ 10) (hB : B ≤ w.heap.size) (hF : IL w B A (seqI k0 f)) (hL : XL w B A' (seqB (k0 + (f : Int)) l)) :
    Calls Try.prog 21 #[.agg #[.int .i64 z, .slice A f n, .slice A' l n'], .int .i64 k0] w fun e w' => e = .returned (.int .i64 (k0 + (f : Int) + 4 * (l : Int))) ∧ Below w.heap.size w w' := by
  have HF := Lib.hid hF; have HL := Lib.hid hL; clear hF hL
  go_enter Try.func21, Try.ntmps21
  go_wp2_with fail
  generalize hW0 : (w.alloc (.cells #[.int .i64 z, .slice A f n, .slice A' l n'] 31)) = w0
  have b0 : Below w.heap.size w w0 := by rw [← hW0]; exact balloc _ _
  have k0' : Has w0 w.heap.size 31 #[.int .i64 z, .slice A f n, .slice A' l n'] := by rw [← hW0]; exact has_new _ _ _
  clear hW0
  have hz0 := b0.size
  have K0 := Lib.hid k0'; clear k0'
  refine (heldInt_any w0 B A n f k0 lf h0 (by omega) (by omega) (HF.out.later hB b0)).mono ?_
  rintro e w1 ⟨rfl, hb1⟩
  have k1 := has_call K0.out hb1
  have e2 := has_cell k1 2 rfl
  have K1 := Lib.hid k1; clear k1
  have c1 := bthen b0 hb1
  have hz1 := c1.size
  go_wp2_with fail
  clear e2
  refine (heldBox_any w1 B A' n' l (k0 + (f : Int)) lb (by omega) (by omega) (by omega) (HL.out.later hB c1)).mono ?_
  rintro e w2 ⟨rfl, hb2⟩
  go_wp2_with fail
  go_ret
  exact ⟨rfl, bthen c1 hb2⟩
end Go.Proofs.Ytodomhmadfnogaa
