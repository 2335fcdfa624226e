/- Chapter 2: banks in blocks of their own: where their columns lie. -/
import Derived.Test.YtpoiebebnpelhaaBnkB
import Derived.Test.YtpoiebebnpelhaaBnkL
import Derived.Test.YtpoiebebnpelhaaColR
namespace Go.Proofs.Ytpoiebebnpelhaa
open Go.RowKit
set_option linter.unusedVariables false

def colC (x : Cl) : List Value := [.int .i64 x.z, .slice x.AF x.F.length x.cF, .slice x.AB x.L.length x.cB]
def colV (l : List Cl) : List Value := l.flatMap colC
theorem colV_len (l : List Cl) : (colV l).length = 3 * l.length := by
  induction l with
  | nil => rfl
  | cons a r ih => simp [colV, colC] at ih ⊢; omega
theorem colV_app (l r : List Cl) : colV (l ++ r) = colV l ++ colV r := by simp [colV]
theorem colV_at : ∀ {l : List Cl} {k : Nat} {x : Cl}, l[k]? = some x → (colV l)[k * 3]? = some (.int .i64 x.z) ∧ (colV l)[k * 3 + 1]? = some (.slice x.AF x.F.length x.cF) ∧ (colV l)[k * 3 + 2]? = some (.slice x.AB x.L.length x.cB)
  | [], k, u, h => by simp at h
  | a :: r, 0, u, h => by
    simp at h; subst h
    exact ⟨rfl, rfl, rfl⟩
  | a :: r, k + 1, u, h => by
    have ih := colV_at (l := r) (k := k) (x := u) (by simpa using h)
    have e : colV (a :: r) = .int .i64 a.z :: .slice a.AF a.F.length a.cF :: .slice a.AB a.L.length a.cB :: colV r := rfl
    rw [e, show (k + 1) * 3 = k * 3 + 1 + 1 + 1 by omega]
    exact ⟨by simpa using ih.1, by simpa using ih.2.1, by simpa using ih.2.2⟩
theorem colV_nil {l : List Cl} (h : colV l = []) : l = [] := by
  have := congrArg List.length h
  rw [colV_len] at this
  exact List.eq_nil_of_length_eq_zero (by simp only [List.length_nil] at this; omega)
theorem colV_of {l : List Cl} {cs : Array Value} (h : ∀ j x, j < l.length → l[j]? = some x → cs[j * 3]? = some (.int .i64 x.z) ∧ cs[j * 3 + 1]? = some (.slice x.AF x.F.length x.cF) ∧ cs[j * 3 + 2]? = some (.slice x.AB x.L.length x.cB)) : ∀ (j : Nat) (u : Value), (colV l)[j]? = some u → cs[j]? = some u := by
  intro j u hu
  have hj : j < 3 * l.length := by have := (List.getElem?_eq_some_iff.1 hu).1; rwa [colV_len] at this
  obtain ⟨q, r, rfl, hr⟩ : ∃ q r, j = q * 3 + r ∧ r < 3 := ⟨j / 3, j % 3, by omega, by omega⟩
  have hq : q < l.length := by omega
  have hx := List.getElem?_eq_getElem hq
  have h1 := colV_at hx
  have h2 := h q _ hq hx
  rcases r with _ | _ | _ | r
  · rw [Nat.add_zero] at hu ⊢; rw [h1.1] at hu; rw [h2.1]; exact hu
  · rw [h1.2.1] at hu; rw [h2.2.1]; exact hu
  · rw [h1.2.2] at hu; rw [h2.2.2]; exact hu
  · omega
theorem colV_set {l : List Cl} {k : Nat} (hk : k < l.length) (x : Cl) : colV (l.set k x) = (((colV l).set (k * 3) (.int .i64 x.z)).set (k * 3 + 1) (.slice x.AF x.F.length x.cF)).set (k * 3 + 2) (.slice x.AB x.L.length x.cB) := by
  induction l generalizing k with
  | nil => simp at hk
  | cons a r ih =>
    cases k with
    | zero => rfl
    | succ k =>
      have e : colV (a :: r) = .int .i64 a.z :: .slice a.AF a.F.length a.cF :: .slice a.AB a.L.length a.cB :: colV r := rfl
      have e2 : colV ((a :: r).set (k + 1) x) = .int .i64 a.z :: .slice a.AF a.F.length a.cF :: .slice a.AB a.L.length a.cB :: colV (r.set k x) := rfl
      rw [e2, ih (by simpa using hk), e, show (k + 1) * 3 = k * 3 + 1 + 1 + 1 by omega]
      rfl
/-- where the rows of the columns lie: each column's in a range of its own -/
structure RowsSep (w : World) (lo hi : Nat) (l : List Cl) (f : Nat → Nat × Nat) : Prop where
  row : ∀ k x, l[k]? = some x → lo ≤ (f k).1 ∧ (f k).1 ≤ (f k).2 ∧ (f k).2 ≤ hi ∧ OI w (f k).1 (f k).2 3 x.AF (intV x.F) ∧ OI w (f k).1 (f k).2 72 x.AB (boxV x.L)
  dis : ∀ j k, j < k → k < l.length → (f j).2 ≤ (f k).1 ∨ (f k).2 ≤ (f j).1
def BankAt (w : World) (lo hi : Nat) (A : Option Addr) (l : List Cl) : Prop := OI w lo hi 53 A (colV l) ∧ ∃ f, RowsSep w lo hi l f
section
variable {w w' : World} {lo hi a b : Nat} {A : Option Addr} {l : List Cl} {f : Nat → Nat × Nat}
theorem rowsSep_nil (w : World) (lo hi : Nat) : RowsSep w lo hi [] (fun _ => (lo, lo)) := ⟨fun k x h => by simp at h, fun j k _ hk => by simp at hk⟩
theorem RowsSep.call (h : RowsSep w lo hi l f) (hb : Below w.heap.size w w') : RowsSep w' lo hi l f :=
  ⟨fun k x hx => by obtain ⟨h1, h2, h3, h4, h5⟩ := h.row k x hx; exact ⟨h1, h2, h3, h4.call hb, h5.call hb⟩, h.dis⟩
theorem RowsSep.within (h : RowsSep w lo hi l f) (hw : Within a b w w') (ho : hi ≤ a ∨ b ≤ lo) : RowsSep w' lo hi l f :=
  ⟨fun k x hx => by obtain ⟨h1, h2, h3, h4, h5⟩ := h.row k x hx; exact ⟨h1, h2, h3, hw.oi h4 (by omega), hw.oi h5 (by omega)⟩, h.dis⟩
theorem RowsSep.wider {lo' hi' : Nat} (h : RowsSep w lo hi l f) (h1 : lo' ≤ lo) (h2 : hi ≤ hi') : RowsSep w lo' hi' l f :=
  ⟨fun k x hx => by obtain ⟨q1, q2, q3, q4, q5⟩ := h.row k x hx; exact ⟨by omega, q2, by omega, q4, q5⟩, h.dis⟩
theorem OI.wider {lo' hi' : Nat} {e : TypeId} {xs : List Value} (h : OI w lo hi e A xs) (h1 : lo' ≤ lo) (h2 : hi ≤ hi') : OI w lo' hi' e A xs := by
  rcases h with h | ⟨g, cur, rfl, q1, q2, hh, hc⟩
  · exact .inl h
  · exact .inr ⟨g, cur, rfl, by omega, by omega, hh, hc⟩
theorem BankAt.call (h : BankAt w lo hi A l) (hb : Below w.heap.size w w') : BankAt w' lo hi A l := ⟨h.1.call hb, let ⟨f, hf⟩ := h.2; ⟨f, hf.call hb⟩⟩
theorem BankAt.within (h : BankAt w lo hi A l) (hw : Within a b w w') (ho : hi ≤ a ∨ b ≤ lo) : BankAt w' lo hi A l := ⟨hw.oi h.1 ho, let ⟨f, hf⟩ := h.2; ⟨f, hf.within hw ho⟩⟩
theorem BankAt.wider {lo' hi' : Nat} (h : BankAt w lo hi A l) (h1 : lo' ≤ lo) (h2 : hi ≤ hi') : BankAt w lo' hi' A l := ⟨h.1.wider h1 h2, let ⟨f, hf⟩ := h.2; ⟨f, hf.wider h1 h2⟩⟩
theorem RowsSep.snoc (h : RowsSep w lo hi l f) {x : Cl} (ha : hi ≤ a) (hab : a ≤ b) (hlo : lo ≤ hi) (h1 : OI w a b 3 x.AF (intV x.F)) (h2 : OI w a b 72 x.AB (boxV x.L)) :
    RowsSep w lo b (l ++ [x]) (fun k => if k = l.length then (a, b) else f k) := by
  refine ⟨fun k y hy => ?_, fun j k hj hk => ?_⟩
  · by_cases e : k = l.length
    · subst e
      simp at hy; subst hy
      simp only [if_true]
      exact ⟨by omega, hab, Nat.le_refl _, h1, h2⟩
    · rw [if_neg e]
      have hk : k < l.length := by have := (List.getElem?_eq_some_iff.1 hy).1; simp at this; omega
      rw [List.getElem?_append_left hk] at hy
      obtain ⟨q1, q2, q3, q4, q5⟩ := h.row k y hy
      exact ⟨q1, q2, by omega, q4, q5⟩
  · simp at hk
    rw [if_neg (by omega : j ≠ l.length)]
    have hjl : j < l.length := by omega
    obtain ⟨q1, q2, q3, _, _⟩ := h.row j _ (List.getElem?_eq_getElem hjl)
    by_cases e : k = l.length
    · rw [if_pos e]; left; show (f j).2 ≤ a; omega
    · rw [if_neg e]; exact h.dis j k hj (by omega)
theorem RowsSep.set (h : RowsSep w lo hi l f) {k : Nat} {x : Cl} (ha : hi ≤ a) (hab : a ≤ b) (hlo : lo ≤ hi) (h1 : OI w a b 3 x.AF (intV x.F)) (h2 : OI w a b 72 x.AB (boxV x.L)) :
    RowsSep w lo b (l.set k x) (fun j => if j = k then (a, b) else f j) := by
  refine ⟨fun j y hy => ?_, fun i j hi' hj => ?_⟩
  · by_cases e : j = k
    · subst e
      have hk : j < l.length := by have := (List.getElem?_eq_some_iff.1 hy).1; simpa using this
      rw [List.getElem?_set_self hk] at hy; injection hy with hy; subst hy
      simp only [if_true]
      exact ⟨by omega, hab, Nat.le_refl _, h1, h2⟩
    · rw [if_neg e]
      rw [List.getElem?_set_ne (fun e' => e e'.symm)] at hy
      obtain ⟨q1, q2, q3, q4, q5⟩ := h.row j y hy
      exact ⟨q1, q2, by omega, q4, q5⟩
  · simp at hj
    obtain ⟨q1, q2, q3, _, _⟩ := h.row i _ (List.getElem?_eq_getElem (by omega))
    obtain ⟨p1, p2, p3, _, _⟩ := h.row j _ (List.getElem?_eq_getElem hj)
    by_cases e : i = k
    · rw [if_pos e, if_neg (by omega)]; right; show (f j).2 ≤ a; omega
    · rw [if_neg e]
      by_cases e2 : j = k
      · rw [if_pos e2]; left; show (f i).2 ≤ a; omega
      · rw [if_neg e2]; exact h.dis i j hi' hj
theorem BankAt.kl (h : BankAt w lo hi A l) : KL w w.heap.size A l := by
  rcases h.1 with h | ⟨g, cur, rfl, h1, h2, hh, hc⟩
  · exact .inl (colV_nil h)
  · refine .inr ⟨g, 0, rfl, has_lt hh, fun k x hx => ?_⟩
    have := colV_at hx
    rw [Nat.zero_add]
    exact ⟨has_cell hh _ (hc _ _ this.1), has_cell hh _ (hc _ _ this.2.1), has_cell hh _ (hc _ _ this.2.2)⟩
theorem BankAt.cv (h : BankAt w lo hi A l) (hs : SmallK l) : ∀ x ∈ l, CV w w.heap.size x := fun x hx => by
  obtain ⟨f, hf⟩ := h.2
  obtain ⟨k, hk⟩ := List.getElem?_of_mem hx
  obtain ⟨_, _, _, h4, h5⟩ := hf.row k x hk
  have := hs x hx
  exact ⟨h4.il, h5.xl, by unfold maxLen; omega, by unfold maxLen; omega⟩
end
theorem copiedK_oi {w : World} {g lo hi : Nat} {cs : Array Value} {l' : List Cl} {n : Nat} (h : CopiedK w g cs l' n) (h1 : lo ≤ g) (h2 : g < hi) : OI w lo hi 53 (some ⟨g, 0, none⟩) (colV l') :=
  .inr ⟨g, cs, rfl, h1, h2, h.heap, colV_of fun j x _ hx => h.got j x (by exact hx)⟩
end Go.Proofs.Ytpoiebebnpelhaa
