/- Chapter 7: the best of all orders: plain facts. -/
import Derived.Test.YtfimdhbcifjioaaTxD
import Derived.Test.YtfimdhbcifjioaaTwQ
namespace Go.Proofs.Ytfimdhbcifjioaa
open Go.RowKit
set_option linter.unusedVariables false

def befB : List Int → List Int → Bool
  | a :: r, b :: s => if a = b then befB r s else decide (a < b)
  | _, _ => false
theorem befB_nil (a : List Int) : befB a [] = false := by cases a <;> rfl
theorem befB_nil' (a : List Int) : befB [] a = false := by cases a <;> rfl
theorem befB_same (x : Int) (a b : List Int) : befB (x :: a) (x :: b) = befB a b := if_pos rfl
theorem befB_diff {x y : Int} (h : x ≠ y) (a b : List Int) : befB (x :: a) (y :: b) = decide (x < y) := if_neg h
theorem befB_app : ∀ (p a b : List Int), befB (p ++ a) (p ++ b) = befB a b
  | [], _, _ => rfl
  | x :: p, a, b => by rw [List.cons_append, List.cons_append, befB_same, befB_app p a b]
theorem befB_self (a : List Int) : befB a a = false := by
  have := befB_app a [] []
  rw [List.append_nil] at this
  exact this
theorem ords_pre (n : Nat) : ∀ (m : Nat) (done : List Int), ∀ l ∈ ordsT n m done, ∃ t, l = done ++ t
  | 0, done, l, hl => by
    simp [ordsT] at hl
    exact ⟨[], by rw [hl, List.append_nil]⟩
  | m + 1, done, l, hl => by
    simp only [ordsT, List.mem_cons, List.mem_flatMap, List.mem_range] at hl
    rcases hl with rfl | ⟨j, _, hl⟩
    · exact ⟨[], (List.append_nil _).symm⟩
    · by_cases hc : done.contains (j : Int) = true
      · rw [if_pos hc] at hl; cases hl
      · rw [if_neg hc] at hl
        obtain ⟨t, rfl⟩ := ords_pre n m _ l hl
        exact ⟨(j : Int) :: t, by simp⟩
/-- what stands earlier does not come behind -/
def Asc (X : List (List Int)) : Prop := X.Pairwise fun a b => befB b a = false
theorem ords_asc (n : Nat) : ∀ (m : Nat) (done : List Int), Asc (ordsT n m done)
  | 0, done => by simp [ordsT, Asc]
  | m + 1, done => by
    unfold Asc ordsT
    rw [List.pairwise_cons]
    refine ⟨fun l hl => ?_, ?_⟩
    · simp only [List.mem_flatMap, List.mem_range] at hl
      obtain ⟨j, _, hl⟩ := hl
      by_cases hc : done.contains (j : Int) = true
      · rw [if_pos hc] at hl; cases hl
      · rw [if_neg hc] at hl
        obtain ⟨t, rfl⟩ := ords_pre n m _ l hl
        have := befB_app done ((j : Int) :: t) []
        rw [List.append_nil, befB_nil] at this
        simpa using this
    · rw [List.pairwise_flatMap]
      refine ⟨fun j _ => ?_, ?_⟩
      · by_cases hc : done.contains (j : Int) = true
        · rw [if_pos hc]; exact List.Pairwise.nil
        · rw [if_neg hc]; exact ords_asc n m _
      · refine List.pairwise_lt_range.imp fun {i j} hij x hx y hy => ?_
        by_cases hc : done.contains (i : Int) = true
        · rw [if_pos hc] at hx; cases hx
        · rw [if_neg hc] at hx
          by_cases hd : done.contains (j : Int) = true
          · rw [if_pos hd] at hy; cases hy
          · rw [if_neg hd] at hy
            obtain ⟨t, rfl⟩ := ords_pre n m _ x hx
            obtain ⟨s, rfl⟩ := ords_pre n m _ y hy
            rw [List.append_assoc, List.append_assoc, befB_app]
            show befB ((j : Int) :: s) ((i : Int) :: t) = false
            rw [befB_diff (by omega)]
            simp; omega
theorem ords_in (n : Nat) : ∀ (m : Nat) (done t : List Int), orderT n (done ++ t) = true → t.length ≤ m → done ++ t ∈ ordsT n m done
  | m, done, [], _, _ => by
    rw [List.append_nil]
    cases m <;> simp [ordsT]
  | 0, done, x :: t, _, h => by simp at h
  | m + 1, done, x :: t, ho, h => by
    obtain ⟨h1, h2⟩ := (orderT_iff n _).1 ho
    have hx := h2 x (by simp)
    obtain ⟨j, rfl⟩ := Int.eq_ofNat_of_zero_le hx.1
    have hc : ¬ done.contains (j : Int) = true := fun hc => by
      rw [List.nodup_append] at h1
      exact h1.2.2 _ (by simpa using hc) (j : Int) (by simp) rfl
    simp only [ordsT, List.mem_cons, List.mem_flatMap, List.mem_range]
    refine .inr ⟨j, by omega, ?_⟩
    rw [if_neg hc]
    have e : done ++ (j : Int) :: t = (done ++ [(j : Int)]) ++ t := by simp
    rw [e] at ho ⊢
    exact ords_in n m _ t ho (by simp at h; omega)
structure Bst (b r : Int) (G : List (List Int)) (S : List Sp) (least : Nat) (X : List (List Int)) (q : List Int × Int) : Prop where
  mem : q.1 ∈ X
  big : ¬ q.1.length < least
  ride : ∃ d, rideT b r G S q.1 = some d ∧ d.fin = q.2
  best : ∀ O ∈ X, ∀ d, rideT b r G S O = some d → ¬ O.length < least → ¬ (q.1.length < O.length ∨ O.length = q.1.length ∧ d.fin < q.2) ∧ (O.length = q.1.length → d.fin = q.2 → befB O q.1 = false)
def BstO (b r : Int) (G : List (List Int)) (S : List Sp) (least : Nat) (X : List (List Int)) : Option (List Int × Int) → Prop
  | none => ∀ O ∈ X, rideT b r G S O = none ∨ O.length < least
  | some q => Bst b r G S least X q
theorem bst_step {b r : Int} {G : List (List Int)} {S : List Sp} {least : Nat} {P : List (List Int)} {x : List Int} {acc : Option (List Int × Int)} (h : BstO b r G S least P acc) (hP : ∀ a ∈ P, befB x a = false) : BstO b r G S least (P ++ [x]) (bstep b r G S least acc x) := by
  unfold bstep
  by_cases hl : x.length < least
  · rw [if_pos hl]
    cases acc with
    | none =>
      exact fun O hO => by
        rcases List.mem_append.1 hO with hO | hO
        · exact h O hO
        · rw [List.mem_singleton] at hO; subst hO; exact .inr hl
    | some q =>
      obtain ⟨h1, h2, h3, h4⟩ := h
      exact ⟨List.mem_append_left _ h1, h2, h3, fun O hO d hd hs => by
        rcases List.mem_append.1 hO with hO | hO
        · exact h4 O hO d hd hs
        · rw [List.mem_singleton] at hO; subst hO; exact absurd hl hs⟩
  · rw [if_neg hl]
    cases hr : rideT b r G S x with
    | none =>
      cases acc with
      | none =>
        exact fun O hO => by
          rcases List.mem_append.1 hO with hO | hO
          · exact h O hO
          · rw [List.mem_singleton] at hO; subst hO; exact .inl hr
      | some q =>
        obtain ⟨h1, h2, h3, h4⟩ := h
        exact ⟨List.mem_append_left _ h1, h2, h3, fun O hO d hd hs => by
          rcases List.mem_append.1 hO with hO | hO
          · exact h4 O hO d hd hs
          · rw [List.mem_singleton] at hO; subst hO; rw [hr] at hd; cases hd⟩
    | some d =>
      cases acc with
      | none =>
        exact ⟨List.mem_append_right _ List.mem_cons_self, hl, ⟨d, hr, rfl⟩, fun O hO d' hd hs => by
          rcases List.mem_append.1 hO with hO | hO
          · rcases h O hO with h | h
            · rw [h] at hd; cases hd
            · exact absurd h hs
          · rw [List.mem_singleton] at hO; subst hO
            rw [hr] at hd; injection hd with hd; subst hd
            exact ⟨by dsimp only; omega, fun _ _ => befB_self _⟩⟩
      | some q =>
        obtain ⟨h1, h2, h3, h4⟩ := h
        dsimp only
        by_cases hc : q.1.length < x.length ∨ x.length = q.1.length ∧ d.fin < q.2
        · rw [if_pos hc]
          exact ⟨List.mem_append_right _ List.mem_cons_self, hl, ⟨d, hr, rfl⟩, fun O hO d' hd hs => by
            rcases List.mem_append.1 hO with hO | hO
            · have := (h4 O hO d' hd hs).1
              dsimp only
              exact ⟨by omega, fun e1 e2 => by exfalso; omega⟩
            · rw [List.mem_singleton] at hO; subst hO
              rw [hr] at hd; injection hd with hd; subst hd
              exact ⟨by dsimp only; omega, fun _ _ => befB_self _⟩⟩
        · rw [if_neg hc]
          exact ⟨List.mem_append_left _ h1, h2, h3, fun O hO d' hd hs => by
            rcases List.mem_append.1 hO with hO | hO
            · exact h4 O hO d' hd hs
            · rw [List.mem_singleton] at hO; subst hO
              rw [hr] at hd; injection hd with hd; subst hd
              exact ⟨hc, fun _ _ => hP _ h1⟩⟩
theorem bst_fold {b r : Int} {G : List (List Int)} {S : List Sp} {least : Nat} : ∀ (X P : List (List Int)) (acc : Option (List Int × Int)), BstO b r G S least P acc → Asc (P ++ X) → BstO b r G S least (P ++ X) (X.foldl (bstep b r G S least) acc)
  | [], P, acc, h, _ => by rw [List.append_nil]; exact h
  | x :: X, P, acc, h, ha => by
    rw [List.foldl_cons]
    have e : P ++ x :: X = (P ++ [x]) ++ X := by simp
    rw [e] at ha ⊢
    refine bst_fold X (P ++ [x]) _ (bst_step h fun a hm => ?_) ha
    have h1 := (List.pairwise_append.1 ha).1
    exact (List.pairwise_append.1 h1).2.2 a hm x List.mem_cons_self
theorem bestT_bst (b r : Int) (G : List (List Int)) (S : List Sp) (least : Nat) : BstO b r G S least (ordsT S.length S.length []) (bestT b r G S least) := by
  have := bst_fold (b := b) (r := r) (G := G) (S := S) (least := least) (ordsT S.length S.length []) [] none (fun O hO => by cases hO) (by rw [List.nil_append]; exact ords_asc _ _ _)
  rw [List.nil_append] at this
  exact this
theorem order_in {n : Nat} {O : List Int} (h : orderT n O = true) (hl : O.length ≤ n) : O ∈ ordsT n n [] := by
  have := ords_in n n [] O (by simpa using h) hl
  simpa using this
/-- what the law asks of the best orders -/
structure BestF (b r : Int) (G : List (List Int)) (S : List Sp) (a : List Int) (x : Int) (is : Bool) (l : List Int) (y : Int) : Prop where
  ord : orderT S.length l = true
  len : l.length ≤ S.length
  ride : ∃ d, rideT b r G S l = some d ∧ d.fin = y
  full : is = true ↔ l.length = S.length
  same : is = true → x = y
  best : ∀ O d, orderT S.length O = true → O.length ≤ S.length → rideT b r G S O = some d → ¬ (l.length < O.length) ∧ ¬ (O.length = l.length ∧ d.fin < y) ∧ (O.length = l.length → d.fin = y → befB O l = false)
theorem best_facts {b r : Int} {G : List (List Int)} {S : List Sp} (hT : RoundT b r G S) : ∃ l y, bestVal b r G S 0 = (l, y, true) ∧ BestF b r G S (bestVal b r G S S.length).1 (bestVal b r G S S.length).2.1 (bestVal b r G S S.length).2.2 l y := by
  have hB : roundB b r G S = true := (roundB_iff b r G S).2 hT
  have h0 := bestT_bst b r G S 0
  have hn := bestT_bst b r G S S.length
  cases e0 : bestT b r G S 0 with
  | none =>
    exfalso
    rw [e0] at h0
    obtain ⟨d, hd⟩ := rideT_nil hT
    rcases h0 [] (order_in ((orderT_iff _ _).2 ⟨List.nodup_nil, fun x hx => by cases hx⟩) (Nat.zero_le _)) with h | h
    · rw [hd] at h; cases h
    · simp at h
  | some q =>
    rw [e0] at h0
    have hv0 := bestVal_yes (b := b) (r := r) (G := G) (S := S) (least := 0) (q := q) (by rw [if_pos hB, e0])
    obtain ⟨o1, o2⟩ := ords_top h0.mem
    have hbest : ∀ O d, orderT S.length O = true → O.length ≤ S.length → rideT b r G S O = some d → ¬ (q.1.length < O.length) ∧ ¬ (O.length = q.1.length ∧ d.fin < q.2) ∧ (O.length = q.1.length → d.fin = q.2 → befB O q.1 = false) := fun O d ho hl hd => by
      have := h0.best O (order_in ho hl) d hd (by omega)
      exact ⟨fun h => this.1 (.inl h), fun h => this.1 (.inr h), this.2⟩
    refine ⟨q.1, q.2, hv0, ?_⟩
    cases en : bestT b r G S S.length with
    | none =>
      rw [en] at hn
      have hvn := bestVal_no (b := b) (r := r) (G := G) (S := S) (least := S.length) (by rw [if_pos hB, en])
      rw [hvn]
      refine ⟨o1, o2, h0.ride, ⟨fun h => (by cases h), fun h => ?_⟩, fun h => (by cases h), hbest⟩
      exfalso
      obtain ⟨d, hd, _⟩ := h0.ride
      rcases hn q.1 h0.mem with h' | h'
      · rw [hd] at h'; cases h'
      · omega
    | some p =>
      rw [en] at hn
      have hvn := bestVal_yes (b := b) (r := r) (G := G) (S := S) (least := S.length) (q := p) (by rw [if_pos hB, en])
      rw [hvn]
      obtain ⟨p1, p2⟩ := ords_top hn.mem
      obtain ⟨dp, hdp, hfp⟩ := hn.ride
      obtain ⟨dq, hdq, hfq⟩ := h0.ride
      have hbig := hn.big
      have hb := hbest p.1 dp p1 p2 hdp
      have hlen : q.1.length = S.length := by omega
      refine ⟨o1, o2, h0.ride, ⟨fun _ => hlen, fun _ => rfl⟩, fun _ => ?_, hbest⟩
      have hc := (hn.best q.1 h0.mem dq hdq (by omega)).1
      dsimp only
      omega
end Go.Proofs.Ytfimdhbcifjioaa
