/- Chapter 2: contracts of TakeOut, the model's and the program's. -/
import Derived.Test.YthmbpcnpmfiaoaaColV
import Derived.Test.YthmbpcnpmfiaoaaColK
import Derived.Test.YthmbpcnpmfiaoaaColT
namespace Go.Proofs.Ythmbpcnpmfiaoaa
open Go.RowKit
set_option linter.unusedVariables false

/-- the answer is a column in blocks of its own and a test -/
def ColAnsB (R : Int → List Int → List Bx → Bool → Prop) (w : World) (e : Ending) (w' : World) : Prop :=
  ∃ (z : Int) (F : List Int) (L : List Bx) (b : Bool) (A A' : Option Addr) (n n' : Nat), e = .returned (.tuple #[.agg #[.int .i64 z, .slice A F.length n, .slice A' L.length n'], .bool b]) ∧ R z F L b ∧ F.length ≤ 1048576 ∧ L.length ≤ 1048576 ∧ OR w' w.heap.size 3 A (intV F) ∧ OR w' w.heap.size 62 A' (boxV L) ∧ Below w.heap.size w w'
section
variable {w w' : World} {base g : Nat} {e e' : TypeId} {A : Option Addr} {xs : List Value}
theorem OR.set_other {cur : Array Value} (h : OR w base e A xs) (hh : Has w g e' cur) (hne : e ≠ e') (i : Nat) (v : Value) : OR (w.setCell ⟨g, i, none⟩ v) base e A xs := by
  rcases h with h | ⟨g', cur', rfl, hb, h', hc⟩
  · exact .inl h
  · refine .inr ⟨g', cur', rfl, hb, has_far h' (fun eq => ?_) v, hc⟩
    have : g' = g := eq
    subst this
    have := h'.symm.trans hh
    injection this with this; injection this with _ this _
    exact hne this
theorem or_set {L : List Bx} {j i : Nat} {x y : Bx} {v : Value} (h : OR w base e A (boxV L)) (hx : L[j]? = some x) (hi : i < 4) (hy : boxC y = (boxC x).set i v) :
    ∃ (g : Nat) (cur : Array Value), A = some ⟨g, 0, none⟩ ∧ base ≤ g ∧ Has w g e cur ∧ (∃ u, w.cell? ⟨g, j * 4 + i, none⟩ = some u) ∧ w.frozen? ⟨g, j * 4 + i, none⟩ = false ∧ OR (w.setCell ⟨g, j * 4 + i, none⟩ v) base e A (boxV (L.set j y)) := by
  have hj : j < L.length := (List.getElem?_eq_some_iff.1 hx).1
  rcases h with h | ⟨g, cur, rfl, hb, hh, hc⟩
  · have := boxV_nil h; rw [this] at hj; simp at hj
  · have hlen := boxV_len L
    have hin : ∀ k, k < 4 * L.length → k < cur.size := fun k hk => by
      have := hc k _ (List.getElem?_eq_getElem (by omega))
      exact (Array.getElem?_eq_some_iff.1 this).1
    refine ⟨g, cur, rfl, hb, hh, ⟨_, has_cell hh _ (Array.getElem?_eq_getElem (hin _ (by omega)))⟩, has_free hh _, .inr ⟨g, _, rfl, hb, has_set hh _ _, boxV_of fun k b hk hb' => ?_⟩⟩
    rw [List.length_set] at hk
    rw [List.getElem?_set] at hb'
    by_cases hjk : j = k
    · subst hjk
      rw [if_pos rfl, if_pos hj] at hb'
      injection hb' with hb'; subst hb'
      have hold := boxV_at hx
      have c0 := hc _ _ hold.1
      have c1 := hc _ _ hold.2.1
      have c2 := hc _ _ hold.2.2.1
      have c3 := hc _ _ hold.2.2.2
      have hs := hin (j * 4 + i) (by omega)
      obtain ⟨y0, y1, y2, y3⟩ := y
      obtain ⟨x0, x1, x2, x3⟩ := x
      simp only [Array.getElem?_setIfInBounds]
      rcases i with _ | _ | _ | _ | i
      · simp [boxC] at hy
        obtain ⟨h0, h1, h2, h3⟩ := hy
        subst h0 h1 h2 h3
        exact ⟨by rw [if_pos (by omega), if_pos (by omega)], by rw [if_neg (by omega)]; exact c1, by rw [if_neg (by omega)]; exact c2, by rw [if_neg (by omega)]; exact c3⟩
      · simp [boxC] at hy
        obtain ⟨h0, h1, h2, h3⟩ := hy
        subst h0 h1 h2 h3
        exact ⟨by rw [if_neg (by omega)]; exact c0, by rw [if_pos (by omega), if_pos (by omega)], by rw [if_neg (by omega)]; exact c2, by rw [if_neg (by omega)]; exact c3⟩
      · simp [boxC] at hy
        obtain ⟨h0, h1, h2, h3⟩ := hy
        subst h0 h1 h2 h3
        exact ⟨by rw [if_neg (by omega)]; exact c0, by rw [if_neg (by omega)]; exact c1, by rw [if_pos (by omega), if_pos (by omega)], by rw [if_neg (by omega)]; exact c3⟩
      · simp [boxC] at hy
        obtain ⟨h0, h1, h2, h3⟩ := hy
        subst h0 h1 h2 h3
        exact ⟨by rw [if_neg (by omega)]; exact c0, by rw [if_neg (by omega)]; exact c1, by rw [if_neg (by omega)]; exact c2, by rw [if_pos (by omega), if_pos (by omega)]⟩
      · omega
    · rw [if_neg hjk] at hb'
      have hold := boxV_at hb'
      simp only [Array.getElem?_setIfInBounds]
      exact ⟨by rw [if_neg (by omega)]; exact hc _ _ hold.1, by rw [if_neg (by omega)]; exact hc _ _ hold.2.1, by rw [if_neg (by omega)]; exact hc _ _ hold.2.2.1, by rw [if_neg (by omega)]; exact hc _ _ hold.2.2.2⟩
end
/-- behind the storing of the answer -/
theorem ans_fin {w w1 w2 : World} {A2 A3 : Option Addr} {F L : List Value} {e1 e2 : TypeId} {cs : Array Value} (hb : Below w.heap.size w w2) (hk : Has w2 (w.heap.size + 1) 50 cs) (h2 : OR w2 (w.heap.size + 2) e1 A2 F) (h3 : OR w2 (w.heap.size + 2) e2 A3 L) (u v x : Value) :
    OR (((w2.setCell ⟨w.heap.size + 1, 0, none⟩ u).setCell ⟨w.heap.size + 1, 1, none⟩ v).setCell ⟨w.heap.size + 1, 2, none⟩ x) w.heap.size e1 A2 F ∧ OR (((w2.setCell ⟨w.heap.size + 1, 0, none⟩ u).setCell ⟨w.heap.size + 1, 1, none⟩ v).setCell ⟨w.heap.size + 1, 2, none⟩ x) w.heap.size e2 A3 L ∧ Below w.heap.size w (((w2.setCell ⟨w.heap.size + 1, 0, none⟩ u).setCell ⟨w.heap.size + 1, 1, none⟩ v).setCell ⟨w.heap.size + 1, 2, none⟩ x) :=
  ⟨(((h2.setlow (by show w.heap.size + 1 < _; omega) _).setlow (by show w.heap.size + 1 < _; omega) _).setlow (by show w.heap.size + 1 < _; omega) _).more (by omega),
   (((h3.setlow (by show w.heap.size + 1 < _; omega) _).setlow (by show w.heap.size + 1 < _; omega) _).setlow (by show w.heap.size + 1 < _; omega) _).more (by omega),
   ((hb.setCell (by simp) _).setCell (by simp) _).setCell (by simp) _⟩
theorem set3 {w : World} {g : Nat} {t : TypeId} {a b c u v x : Value} (h : Has w g t #[a, b, c]) : Has (((w.setCell ⟨g, 0, none⟩ u).setCell ⟨g, 1, none⟩ v).setCell ⟨g, 2, none⟩ x) g t #[u, v, x] := by
  have := has_set (has_set (has_set h 0 u) 1 v) 2 x
  simpa using this

def takeR (z : Int) (F : List Int) (L : List Bx) (p : Int) (z' : Int) (F' : List Int) (L' : List Bx) (b : Bool) : Prop :=
  z' = z ∧ F' = F ∧ ((∃ (j : Nat) (x : Bx), (ColOk z F L ∧ fIdx (hasP0 p) L 0 = (j : Int) ∧ L[j]? = some x ∧ x.jam = false) ∧ b = true ∧ L' = L.set j ⟨x.low, x.size, 0, x.jam⟩) ∨
    ((∀ (j : Nat) (x : Bx), ¬ (ColOk z F L ∧ fIdx (hasP0 p) L 0 = (j : Int) ∧ L[j]? = some x ∧ x.jam = false)) ∧ b = false ∧ L' = L))
theorem take_det {z : Int} {F : List Int} {L : List Bx} {p z1 z2 : Int} {F1 F2 : List Int} {L1 L2 : List Bx} {b1 b2 : Bool} (h1 : takeR z F L p z1 F1 L1 b1) (h2 : takeR z F L p z2 F2 L2 b2) : z1 = z2 ∧ F1 = F2 ∧ L1 = L2 ∧ b1 = b2 := by
  obtain ⟨rfl, rfl, h1⟩ := h1
  obtain ⟨rfl, rfl, h2⟩ := h2
  rcases h1 with ⟨j, x, hx, rfl, rfl⟩ | ⟨hn, rfl, rfl⟩
  · rcases h2 with ⟨j', x', hx', rfl, rfl⟩ | ⟨hn', rfl, rfl⟩
    · have : j = j' := by have := hx.2.1.symm.trans hx'.2.1; omega
      subst this
      have : x = x' := by have := hx.2.2.1.symm.trans hx'.2.2.1; injection this
      subst this
      exact ⟨rfl, rfl, rfl, rfl⟩
    · exact absurd hx (hn' j x)
  · rcases h2 with ⟨j', x', hx', rfl, rfl⟩ | ⟨hn', rfl, rfl⟩
    · exact absurd hx' (hn j' x')
    · exact ⟨rfl, rfl, rfl, rfl⟩
theorem take_no {z : Int} {F : List Int} {L : List Bx} {p : Int} (h : ∀ (j : Nat) (x : Bx), ¬ (ColOk z F L ∧ fIdx (hasP0 p) L 0 = (j : Int) ∧ L[j]? = some x ∧ x.jam = false)) : takeR z F L p z F L false := ⟨rfl, rfl, .inr ⟨h, rfl, rfl⟩⟩
theorem take_yes {z : Int} {F : List Int} {L : List Bx} {p : Int} {j : Nat} {x : Bx} (h0 : ColOk z F L) (h1 : fIdx (hasP0 p) L 0 = (j : Int)) (h2 : L[j]? = some x) (h3 : x.jam = false) : takeR z F L p z F (L.set j ⟨x.low, x.size, 0, x.jam⟩) true := ⟨rfl, rfl, .inl ⟨j, x, ⟨h0, h1, h2, h3⟩, rfl, rfl⟩⟩

end Go.Proofs.Ythmbpcnpmfiaoaa
