/- Chapter 7: plain facts behind the law on triangles: a ride without one stop. -/
import Derived.Test.YtkchhnnklppbeaaTouG
namespace Go.Proofs.Ytkchhnnklppbeaa
set_option linter.unusedVariables false

theorem rideS_some {b r : Int} {G : List (List Int)} {S : List Sp} {O : List Int} {d : Dv} (h : rideT b r G S O = some d) : orderB b r G S O = true ∧ ∃ e, runT G S O ⟨[], b, loadT S O, loadT S O, 0, 0⟩ = some e ∧ e.peak ≤ r ∧ d.fin = homeT G O e := by
  unfold rideT at h
  split at h
  · rename_i h1
    refine ⟨h1, ?_⟩
    unfold driveT at h
    cases hr : runT G S O ⟨[], b, loadT S O, loadT S O, 0, 0⟩ with
    | none => rw [hr] at h; cases h
    | some e =>
      rw [hr] at h
      dsimp only at h
      split at h
      · cases h
      · rename_i hn; injection h with h; exact ⟨e, rfl, by omega, by rw [← h]⟩
  · cases h
/-- a shorter way, with c less on board -/
structure Rel7 (n : Int) (G : List (List Int)) (c : Int) (d' d : Dv) : Prop where
  way : ∀ q : Int, 0 ≤ q → q ≤ n → d'.fin + legT G d'.place q ≤ d.fin + legT G d.place q
  fin : d'.fin ≤ d.fin
  load : d'.load + c ≤ d.load
  peak : d'.peak ≤ d.peak
theorem rel_step {n c : Int} {G : List (List Int)} {S : List Sp} {d d' e : Dv} {i : Int} (h0 : 0 ≤ c) (hi : 0 ≤ i ∧ i + 1 ≤ n) (h : Rel7 n G c d' d) (hs : stepT G S d i = some e) : ∃ e', stepT G S d' i = some e' ∧ Rel7 n G c e' e := by
  obtain ⟨h1, h2, h3, h4⟩ := h
  have hw := h1 (i + 1) (by omega) hi.2
  unfold stepT at hs ⊢
  split at hs
  · cases hs
  · rename_i hn
    injection hs with hs
    subst hs
    rw [if_neg (by omega)]
    refine ⟨_, rfl, ⟨fun q q0 q1 => ?_, ?_, ?_, ?_⟩⟩ <;> dsimp only <;> omega
theorem rel_run {n c : Int} {G : List (List Int)} {S : List Sp} (h0 : 0 ≤ c) : ∀ {o : List Int} {d d' e : Dv}, (∀ x ∈ o, 0 ≤ x ∧ x + 1 ≤ n) → Rel7 n G c d' d → runT G S o d = some e → ∃ e', runT G S o d' = some e' ∧ Rel7 n G c e' e
  | [], d, d', e, _, h, hr => by
    simp only [runT] at hr ⊢
    injection hr with hr
    subst hr
    exact ⟨d', rfl, h⟩
  | i :: o, d, d', e, ho, h, hr => by
    simp only [runT] at hr ⊢
    cases hs : stepT G S d i with
    | none => rw [hs] at hr; cases hr
    | some x =>
      rw [hs] at hr
      obtain ⟨x', hx, hxx⟩ := rel_step h0 (ho i List.mem_cons_self) h hs
      rw [hx]
      exact rel_run h0 (fun y hy => ho y (List.mem_cons_of_mem _ hy)) hxx hr
theorem run_app {G : List (List Int)} {S : List Sp} : ∀ {o p : List Int} {d : Dv}, runT G S (o ++ p) d = match runT G S o d with | none => none | some d' => runT G S p d'
  | [], p, d => by simp [runT]
  | i :: o, p, d => by
    simp only [List.cons_append, runT]
    cases stepT G S d i with
    | none => rfl
    | some d' => exact run_app
theorem place_in {G : List (List Int)} {S : List Sp} {n : Int} : ∀ {o : List Int} {d e : Dv}, (∀ x ∈ o, 0 ≤ x ∧ x + 1 ≤ n) → 0 ≤ d.place ∧ d.place ≤ n → runT G S o d = some e → 0 ≤ e.place ∧ e.place ≤ n
  | [], d, e, _, h, hr => by simp only [runT] at hr; injection hr with hr; subst hr; exact h
  | i :: o, d, e, ho, h, hr => by
    simp only [runT] at hr
    cases hs : stepT G S d i with
    | none => rw [hs] at hr; cases hr
    | some x =>
      rw [hs] at hr
      refine place_in (fun y hy => ho y (List.mem_cons_of_mem _ hy)) ?_ hr
      have hi := ho i List.mem_cons_self
      unfold stepT at hs
      split at hs
      · cases hs
      · injection hs with hs; subst hs; dsimp only; omega
/-- of a possible ride over shortest ways, the ride without the stop x is possible and not later -/
theorem ride_less1 {b r : Int} {G : List (List Int)} {S : List Sp} {p u : List Int} {x : Int} {d : Dv} (hTri : TriT (S.length + 1) G) (h : rideT b r G S (p ++ x :: u) = some d) : ∃ d', rideT b r G S (p ++ u) = some d' ∧ d'.fin ≤ d.fin := by
  obtain ⟨ho, e, he, hr, hf⟩ := rideS_some h
  obtain ⟨hT, hN, hI⟩ := (orderB_iff _ _ _ _ _).1 ho
  have hsub : (p ++ u).Sublist (p ++ x :: u) := (List.Sublist.refl p).append (List.sublist_cons_self x u)
  have hI2 : ∀ y ∈ p ++ u, 0 ≤ y ∧ y < S.length := fun y hy => hI y (hsub.subset hy)
  have ho2 : orderB b r G S (p ++ u) = true := (orderB_iff _ _ _ _ _).2 ⟨hT, hN.sublist hsub, hI2⟩
  have hx := hI x (by simp)
  have hst := (stopB_iff _).1 (hT.stops _ (stop_mem hx.1 hx.2).1)
  have hleg : ∀ i j : Int, 0 ≤ i → i ≤ S.length → 0 ≤ j → j ≤ S.length → 0 ≤ legT G i j := fun i j i0 i1 j0 j1 => (leg_in hT i0 i1 j0 j1).1
  have htri : ∀ i k m : Int, 0 ≤ i → i ≤ S.length → 0 ≤ k → k ≤ S.length → 0 ≤ m → m ≤ S.length → legT G i k ≤ legT G i m + legT G m k := fun i k m i0 i1 k0 k1 m0 m1 => by
    have := hTri i.toNat k.toNat m.toNat (by omega) (by omega) (by omega)
    rwa [Int.toNat_of_nonneg i0, Int.toNat_of_nonneg k0, Int.toNat_of_nonneg m0] at this
  have hload : loadT S (p ++ x :: u) = loadT S (p ++ u) + (stopT S x).bring := by
    simp only [loadT, List.map_append, List.sum_append, List.map_cons, List.sum_cons]; omega
  rw [run_app] at he
  cases hp : runT G S p ⟨[], b, loadT S (p ++ x :: u), loadT S (p ++ x :: u), 0, 0⟩ with
  | none => rw [hp] at he; cases he
  | some dp =>
    rw [hp] at he
    have hpi : ∀ y ∈ p, 0 ≤ y ∧ y + 1 ≤ (S.length : Int) := fun y hy => by have := hI y (List.mem_append_left _ hy); omega
    have hui : ∀ y ∈ u, 0 ≤ y ∧ y + 1 ≤ (S.length : Int) := fun y hy => by have := hI2 y (List.mem_append_right _ hy); omega
    have hrel0 : Rel7 S.length G (stopT S x).bring ⟨[], b, loadT S (p ++ u), loadT S (p ++ u), 0, 0⟩ ⟨[], b, loadT S (p ++ x :: u), loadT S (p ++ x :: u), 0, 0⟩ :=
      ⟨fun q _ _ => Int.le_refl _, Int.le_refl _, by show loadT S (p ++ u) + (stopT S x).bring ≤ loadT S (p ++ x :: u); omega, by show loadT S (p ++ u) ≤ loadT S (p ++ x :: u); omega⟩
    obtain ⟨dp', hdp', hrel⟩ := rel_run (by omega) hpi hrel0 hp
    have hpl := place_in (n := S.length) hpi ⟨Int.le_refl _, by dsimp only; omega⟩ hp
    have hpl' := place_in (n := S.length) hpi ⟨Int.le_refl _, by dsimp only; omega⟩ hdp'
    dsimp only [runT] at he
    cases hs : stepT G S dp x with
    | none => rw [hs] at he; cases he
    | some dx =>
      rw [hs] at he
      dsimp only at he
      have hrel2 : Rel7 S.length G 0 dp' dx := by
        obtain ⟨h1, h2, h3, h4⟩ := hrel
        have hl1 := hleg dp.place (x + 1) hpl.1 hpl.2 (by omega) (by omega)
        unfold stepT at hs
        split at hs
        · cases hs
        · injection hs with hs
          subst hs
          refine ⟨fun q q0 q1 => ?_, ?_, ?_, ?_⟩
          · have ha := h1 q q0 q1
            have hb := htri dp.place q (x + 1) hpl.1 hpl.2 q0 q1 (by omega) (by omega)
            dsimp only; omega
          · dsimp only; omega
          · dsimp only; omega
          · dsimp only; omega
      have hplx : 0 ≤ dx.place ∧ dx.place ≤ (S.length : Int) := by
        unfold stepT at hs
        split at hs
        · cases hs
        · injection hs with hs; subst hs; dsimp only; omega
      obtain ⟨e', he', hrel3⟩ := rel_run (Int.le_refl _) hui hrel2 he
      have hple' := place_in hui hpl' he'
      have hple := place_in hui hplx he
      have hrun : runT G S (p ++ u) ⟨[], b, loadT S (p ++ u), loadT S (p ++ u), 0, 0⟩ = some e' := by rw [run_app, hdp']; exact he'
      refine ⟨_, (rideT_yes ho2).trans (driveT_yes hrun (by have := hrel3.peak; omega)), ?_⟩
      dsimp only
      rw [hf]
      have hne : ¬ (p ++ x :: u = []) := by simp
      unfold homeT
      rw [if_neg hne]
      have hw := hrel3.way 0 (Int.le_refl _) (by omega)
      split
      · have := hrel3.fin
        have := hleg e.place 0 hple.1 hple.2 (by omega) (by omega)
        omega
      · exact hw
theorem cut_at {α : Type} {O : List α} {k : Nat} {x : α} (h : O[k]? = some x) : O = O.take k ++ x :: O.drop (k + 1) := by
  have hlt := (List.getElem?_eq_some_iff.1 h).1
  have e : O[k] = x := (List.getElem?_eq_some_iff.1 h).2
  rw [← e, List.getElem_cons_drop, List.take_append_drop]
end Go.Proofs.Ytkchhnnklppbeaa
