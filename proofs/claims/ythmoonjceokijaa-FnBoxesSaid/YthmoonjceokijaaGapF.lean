/- Chapter 2: gaps filled and cleared: the plain facts. -/
import Derived.Test.YthmoonjceokijaaGapP
namespace Go.Proofs.Ythmoonjceokijaa
open Go.RowKit
set_option linter.unusedVariables false

/-- boxes that lie one above the other, from a unit on -/
def Con : Int → List Bx → Prop
  | _, [] => True
  | a, x :: r => x.low = a ∧ 1 ≤ x.size ∧ Con (a + x.size) r
theorem con_of {L : List Bx} {n : Nat} (h : BoxesTo L L.length) (hn : n ≤ L.length) : Con (lowAt L n) (L.drop n) := by
  obtain ⟨d, hd⟩ : ∃ d, d = L.length - n := ⟨_, rfl⟩
  induction d generalizing n with
  | zero => rw [List.drop_eq_nil_of_le (by omega)]; trivial
  | succ d ih =>
    have hlt : n < L.length := by omega
    have hx := List.getElem?_eq_getElem hlt
    obtain ⟨h1, h2, _⟩ := h n _ hlt hx
    rw [List.drop_eq_getElem_cons hlt]
    exact ⟨h1, h2, by rw [← lowAt_succ hx]; exact ih (by omega) (by omega)⟩
theorem con_all {L : List Bx} (h : BoxesTo L L.length) : Con 0 L := by have := con_of h (Nat.zero_le _); simpa [lowAt] using this
theorem con_low : ∀ {L : List Bx} {a : Int}, Con a L → ∀ x ∈ L, a ≤ x.low ∧ x.low < a + sumZ L
  | [], _, _, x, hx => by cases hx
  | y :: r, a, h, x, hx => by
    obtain ⟨h1, h2, h3⟩ := h
    rw [sumZ_cons]
    have h0 : ∀ {l : List Bx} {b : Int}, Con b l → 0 ≤ sumZ l := by
      intro l
      induction l with
      | nil => intro b _; simp [sumZ]
      | cons z s ih => intro b hb; rw [sumZ_cons]; have := ih hb.2.2; have := hb.2.1; omega
    have h4 := h0 h3
    rcases List.mem_cons.1 hx with rfl | hm
    · omega
    · have := con_low h3 x hm; omega
theorem con_app : ∀ {L R : List Bx} {a : Int}, Con a (L ++ R) ↔ Con a L ∧ Con (a + sumZ L) R
  | [], R, a => by simp [Con, sumZ]
  | x :: r, R, a => by
    simp only [List.cons_append, Con, sumZ_cons]
    rw [con_app (L := r), ← Int.add_assoc]
    constructor
    · rintro ⟨h1, h2, h3, h4⟩; exact ⟨⟨h1, h2, h3⟩, h4⟩
    · rintro ⟨⟨h1, h2, h3⟩, h4⟩; exact ⟨h1, h2, h3, h4⟩
theorem con_size {L : List Bx} {a : Int} (h : Con a L) : ∀ x ∈ L, 1 ≤ x.size := by
  induction L generalizing a with
  | nil => intro x hx; cases hx
  | cons y r ih =>
    intro x hx
    rcases List.mem_cons.1 hx with rfl | hm
    · exact h.2.1
    · exact ih h.2.2 x hm
/-- what becomes of a box when a gap is filled -/
def fillB (g : Gp) (p size : Int) (b : Bx) : List Bx :=
  (if b.low = g.low then ⟨g.low, size, p, false⟩ :: (if size < g.size then [⟨g.low + size, g.size - size, 0, false⟩] else []) else []) ++ (if b.low < g.low ∨ g.low + g.size ≤ b.low then [b] else [])
def fillL (g : Gp) (p size : Int) (L : List Bx) : List Bx := L.flatMap (fillB g p size)
def newB (g : Gp) (p size : Int) : List Bx := ⟨g.low, size, p, false⟩ :: (if size < g.size then [⟨g.low + size, g.size - size, 0, false⟩] else [])
theorem fillL_keep {g : Gp} {p size : Int} {L : List Bx} (hg : 1 ≤ g.size) (h : ∀ b ∈ L, b.low < g.low ∨ g.low + g.size ≤ b.low) : fillL g p size L = L := by
  induction L with
  | nil => rfl
  | cons x r ih =>
    have hx := h x List.mem_cons_self
    have : fillB g p size x = [x] := by
      unfold fillB
      rw [if_neg (by omega), if_pos hx]; rfl
    unfold fillL at ih ⊢
    rw [List.flatMap_cons, this, ih fun b hb => h b (List.mem_cons_of_mem _ hb)]; rfl
theorem fillL_in {g : Gp} {p size : Int} {L : List Bx} (h : ∀ b ∈ L, g.low < b.low ∧ b.low < g.low + g.size) : fillL g p size L = [] := by
  induction L with
  | nil => rfl
  | cons x r ih =>
    have hx := h x List.mem_cons_self
    have : fillB g p size x = [] := by
      unfold fillB
      rw [if_neg (by omega), if_neg (by omega)]; rfl
    unfold fillL at ih ⊢
    rw [List.flatMap_cons, this, ih fun b hb => h b (List.mem_cons_of_mem _ hb)]; rfl
theorem fillL_app (g : Gp) (p size : Int) (L R : List Bx) : fillL g p size (L ++ R) = fillL g p size L ++ fillL g p size R := by simp [fillL]
theorem fillL_len (g : Gp) (p size : Int) (L : List Bx) : (fillL g p size L).length ≤ 3 * L.length := by
  induction L with
  | nil => simp [fillL]
  | cons x r ih =>
    unfold fillL at ih ⊢
    rw [List.flatMap_cons, List.length_append]
    have : (fillB g p size x).length ≤ 3 := by unfold fillB; split <;> split <;> (try split) <;> simp
    rw [List.length_cons]; omega
theorem runZ_take (F : List Int) (L : List Bx) : runZ F L = sumZ (L.take (runN F L)) := by
  induction L with
  | nil => simp [runZ, sumZ, runN]
  | cons x r ih =>
    by_cases h : goOn F x = true
    · rw [(runZ_go h).1, (runZ_go h).2, List.take_succ_cons, sumZ_cons, ih]
    · rw [(runZ_no (by simpa using h)).1, (runZ_no (by simpa using h)).2]; simp [sumZ]
theorem app_if_nil {α : Type} {c : Prop} [Decidable c] (l r : List α) (h : ¬ c) : l ++ (if c then r else []) = l := by rw [if_neg h, List.append_nil]
/-- a gap of a column is filled: what lies below it and above it stays -/
theorem fill_gap {F : List Int} {P : List Bx} {x : Bx} {r : List Bx} {c p size a : Int} (hP : ∀ b ∈ P, b.low < x.low) (hc : Con a (x :: r)) :
    fillL ⟨c, x.low, x.size + runZ F r⟩ p size (P ++ x :: r) = P ++ newB ⟨c, x.low, x.size + runZ F r⟩ p size ++ r.drop (runN F r) := by
  obtain ⟨h1, h2, h3⟩ := hc
  have hr : r = r.take (runN F r) ++ r.drop (runN F r) := (List.take_append_drop _ _).symm
  have hz := runZ_take F r
  have hs : 0 ≤ sumZ (r.take (runN F r)) := sumZ_pos fun y hy => con_size h3 y (List.mem_of_mem_take hy)
  rw [hr] at h3
  obtain ⟨h4, h5⟩ := con_app.1 h3
  rw [fillL_app, show x :: r = [x] ++ (r.take (runN F r) ++ r.drop (runN F r)) by rw [← hr]; rfl, fillL_app, fillL_app]
  rw [fillL_keep (by dsimp only; omega) (fun b hb => .inl (hP b hb))]
  rw [fillL_in (L := r.take (runN F r)) (fun b hb => by have := con_low h4 b hb; dsimp only; omega)]
  rw [fillL_keep (L := r.drop (runN F r)) (by dsimp only; omega) (fun b hb => .inr (by have := con_low h5 b hb; dsimp only; omega))]
  have : fillL ⟨c, x.low, x.size + runZ F r⟩ p size [x] = newB ⟨c, x.low, x.size + runZ F r⟩ p size := by
    unfold fillL newB
    rw [List.flatMap_cons, List.flatMap_nil, List.append_nil]
    unfold fillB
    rw [if_pos rfl]
    exact app_if_nil _ _ (by dsimp only; omega)
  rw [this]; simp
/-- the boxes of each gap become one -/
def clrC (F : List Int) : Option Bx → List Bx → List Bx
  | cur, [] => cur.toList
  | cur, x :: r =>
    if opn x then
      match cur with
      | none => clrC F (some x) r
      | some b => if F.contains x.low then b :: clrC F (some x) r else clrC F (some ⟨b.low, b.size + x.size, b.par, b.jam⟩) r
    else cur.toList ++ x :: clrC F none r
def clrL (F : List Int) (L : List Bx) : List Bx := clrC F none L
theorem clrC_run (F : List Int) : ∀ (L : List Bx) (b : Bx), clrC F (some b) L = ⟨b.low, b.size + runZ F L, b.par, b.jam⟩ :: clrC F none (L.drop (runN F L))
  | [], b => by simp [clrC, runZ, runN]
  | x :: r, b => by
    by_cases h : opn x = true
    · by_cases hw : F.contains x.low = true
      · have hg : goOn F x = false := by simp only [goOn, h, hw, Bool.not_true, Bool.and_false]
        have e : clrC F (some b) (x :: r) = b :: clrC F (some x) r := by
          conv => lhs; unfold clrC
          simp only [h, hw, if_true]
        have e2 : clrC F none (x :: r) = clrC F (some x) r := by
          conv => lhs; unfold clrC
          simp only [h, if_true]
        rw [e, (runZ_no hg).1, (runZ_no hg).2, List.drop_zero, e2, Int.add_zero]
      · have hw' : F.contains x.low = false := by simpa using hw
        have hg : goOn F x = true := by simp only [goOn, h, hw', Bool.not_false, Bool.and_true]
        have e : clrC F (some b) (x :: r) = clrC F (some ⟨b.low, b.size + x.size, b.par, b.jam⟩) r := by
          conv => lhs; unfold clrC
          simp only [h, hw', if_true, Bool.false_eq_true, if_false]
        rw [e, clrC_run F r, (runZ_go hg).1, (runZ_go hg).2, List.drop_succ_cons]
        simp only [Int.add_assoc]
    · have h' : opn x = false := by simpa using h
      have hg : goOn F x = false := by simp [goOn, h']
      have e : clrC F (some b) (x :: r) = b :: x :: clrC F none r := by
        conv => lhs; unfold clrC
        simp [h']
      have e2 : clrC F none (x :: r) = x :: clrC F none r := by
        conv => lhs; unfold clrC
        simp [h']
      rw [e, (runZ_no hg).1, (runZ_no hg).2, List.drop_zero, e2, Int.add_zero]
theorem clrL_open {F : List Int} {x : Bx} {r : List Bx} (h : opn x = true) : clrL F (x :: r) = ⟨x.low, x.size + runZ F r, x.par, x.jam⟩ :: clrL F (r.drop (runN F r)) := by
  unfold clrL
  rw [← clrC_run]
  conv => lhs; unfold clrC
  simp only [h, if_true]
theorem clrL_shut {F : List Int} {x : Bx} {r : List Bx} (h : opn x = false) : clrL F (x :: r) = x :: clrL F r := by
  unfold clrL
  conv => lhs; unfold clrC
  simp [h]
theorem opn_zero {x : Bx} (h : opn x = true) : x.par = 0 ∧ x.jam = false := by simpa [opn] using h
/-- filling one gap after the other is clearing -/
theorem fill_all (F : List Int) (c : Int) : ∀ (n : Nat) (R P : List Bx) (a : Int), R.length ≤ n → Con a R → (∀ b ∈ P, b.low < a) → (gapsL F c R).foldl (fun out g => fillL g 0 g.size out) (P ++ R) = P ++ clrL F R
  | _, [], P, a, _, _, _ => by simp [gapsL, gapsC, clrL, clrC]
  | 0, x :: r, _, _, h, _, _ => by simp at h
  | n + 1, x :: r, P, a, hn, hc, hP => by
    have hx := hc
    obtain ⟨h1, h2, h3⟩ := hc
    by_cases h : opn x = true
    · rw [gapsL_open h, clrL_open h, List.foldl_cons]
      rw [fill_gap (fun b hb => by have := hP b hb; omega) hx]
      have hd : newB ⟨c, x.low, x.size + runZ F r⟩ 0 (x.size + runZ F r) = [⟨x.low, x.size + runZ F r, 0, false⟩] := by
        unfold newB; rw [if_neg (by dsimp only; omega)]
      dsimp only
      rw [hd]
      have hz := runZ_take F r
      have hr : r = r.take (runN F r) ++ r.drop (runN F r) := (List.take_append_drop _ _).symm
      have hs : 0 ≤ sumZ (r.take (runN F r)) := sumZ_pos fun y hy => con_size h3 y (List.mem_of_mem_take hy)
      have h3' := h3
      rw [hr] at h3'
      obtain ⟨h4, h5⟩ := con_app.1 h3'
      have ih := fill_all F c n (r.drop (runN F r)) (P ++ [⟨x.low, x.size + runZ F r, 0, false⟩]) _ (by simp at hn ⊢; omega) h5 (fun b hb => by
        rcases List.mem_append.1 hb with hb | hb
        · have := hP b hb; omega
        · simp at hb; subst hb; dsimp only; omega)
      rw [ih, (opn_zero h).1, (opn_zero h).2]; simp
    · have h' : opn x = false := by simpa using h
      rw [gapsL_shut h', clrL_shut h']
      have ih := fill_all F c n r (P ++ [x]) _ (by simp at hn; omega) h3 (fun b hb => by
        rcases List.mem_append.1 hb with hb | hb
        · have := hP b hb; omega
        · simp at hb; subst hb; omega)
      simpa using ih
/-- where a gap stands -/
theorem gap_at (F : List Int) (c : Int) : ∀ (n : Nat) (R P : List Bx) (a : Int), R.length ≤ n → Con a R → (∀ b ∈ P, b.low < a) → ∀ g ∈ gapsL F c R, ∃ (Q : List Bx) (x : Bx) (r : List Bx), P ++ R = Q ++ x :: r ∧ opn x = true ∧ g = ⟨c, x.low, x.size + runZ F r⟩ ∧ (∀ b ∈ Q, b.low < x.low) ∧ (∃ a', Con a' (x :: r))
  | _, [], P, a, _, _, _, g, hg => by simp [gapsL, gapsC] at hg
  | 0, x :: r, _, _, h, _, _, _, _ => by simp at h
  | n + 1, x :: r, P, a, hn, hc, hP, g, hg => by
    have hx := hc
    obtain ⟨h1, h2, h3⟩ := hc
    by_cases h : opn x = true
    · rw [gapsL_open h] at hg
      rcases List.mem_cons.1 hg with rfl | hg
      · exact ⟨P, x, r, rfl, h, rfl, fun b hb => by have := hP b hb; omega, a, hx⟩
      · have hr : r = r.take (runN F r) ++ r.drop (runN F r) := (List.take_append_drop _ _).symm
        have h3' := h3
        rw [hr] at h3'
        obtain ⟨h4, h5⟩ := con_app.1 h3'
        have hs : 0 ≤ sumZ (r.take (runN F r)) := sumZ_pos fun y hy => con_size h3 y (List.mem_of_mem_take hy)
        obtain ⟨Q, y, s, e1, e2, e3, e4, e5⟩ := gap_at F c n (r.drop (runN F r)) (P ++ x :: r.take (runN F r)) _ (by simp at hn ⊢; omega) h5 (fun b hb => by
          rcases List.mem_append.1 hb with hb | hb
          · have := hP b hb; omega
          · rcases List.mem_cons.1 hb with rfl | hb
            · omega
            · have := con_low h4 b hb; omega) g hg
        exact ⟨Q, y, s, by rw [← e1]; simp, e2, e3, e4, e5⟩
    · rw [gapsL_shut (by simpa using h)] at hg
      obtain ⟨Q, y, s, e1, e2, e3, e4, e5⟩ := gap_at F c n r (P ++ [x]) _ (by simp at hn; omega) h3 (fun b hb => by
        rcases List.mem_append.1 hb with hb | hb
        · have := hP b hb; omega
        · simp at hb; subst hb; omega) g hg
      exact ⟨Q, y, s, by rw [← e1]; simp, e2, e3, e4, e5⟩
end Go.Proofs.Ythmoonjceokijaa
