/- Chapter 7: plain facts behind the law on rides. -/
import Derived.Test.YtmaclochdmndkaaTouF
import Derived.Test.YtmaclochdmndkaaTouN
namespace Go.Proofs.Ytmaclochdmndkaa
set_option linter.unusedVariables false

theorem ride_some {b r : Int} {G : List (List Int)} {S : List Sp} {O : List Int} {d : Dv} (h : rideT b r G S O = some d) : orderB b r G S O = true ∧ driveT b r G S O = some d := by
  unfold rideT at h
  split at h
  · rename_i h1; exact ⟨h1, h⟩
  · cases h
theorem drive_some {b r : Int} {G : List (List Int)} {S : List Sp} {O : List Int} {d : Dv} (h : driveT b r G S O = some d) : ∃ e, runT G S O ⟨[], b, loadT S O, loadT S O, 0, 0⟩ = some e ∧ e.peak ≤ r ∧ d = { e with fin := homeT G O e } := by
  unfold driveT at h
  cases hr : runT G S O ⟨[], b, loadT S O, loadT S O, 0, 0⟩ with
  | none => rw [hr] at h; cases h
  | some e =>
    rw [hr] at h
    dsimp only at h
    split at h
    · cases h
    · rename_i hn; injection h with h; exact ⟨e, rfl, by omega, h.symm⟩
theorem run_peak {G : List (List Int)} {S : List Sp} : ∀ {o : List Int} {d e : Dv}, runT G S o d = some e → d.peak ≤ e.peak
  | [], d, e, h => by simp only [runT] at h; injection h with h; subst h; exact Int.le_refl _
  | i :: o, d, e, h => by
    simp only [runT] at h
    cases hs : stepT G S d i with
    | none => rw [hs] at h; cases h
    | some x =>
      rw [hs] at h
      have h1 := run_peak h
      unfold stepT at hs
      split at hs
      · cases hs
      · injection hs with hs
        subst hs
        dsimp only at h1
        omega
/-- with less on board the same is possible -/
theorem run_less {G : List (List Int)} {S : List Sp} : ∀ {o1 o2 : List Int} {d d' e' : Dv}, d.place = d'.place → d.fin = d'.fin → d.load ≤ d'.load → d.peak ≤ d'.peak → runT G S (o1 ++ o2) d' = some e' → ∃ e, runT G S o1 d = some e ∧ e.peak ≤ e'.peak
  | [], o2, d, d', e', hp, hf, hl, hk, h => ⟨d, rfl, by have := run_peak h; omega⟩
  | i :: o1, o2, d, d', e', hp, hf, hl, hk, h => by
    simp only [List.cons_append, runT] at h ⊢
    cases hs : stepT G S d' i with
    | none => rw [hs] at h; cases h
    | some x =>
      rw [hs] at h
      unfold stepT at hs ⊢
      rw [hp, hf]
      split at hs
      · cases hs
      · rename_i hn
        injection hs with hs
        subst hs
        rw [if_neg hn]
        dsimp only
        refine run_less ?_ ?_ ?_ ?_ h
        · rfl
        · rfl
        · dsimp only; omega
        · dsimp only; omega
theorem load_le {S : List Sp} (hS : ∀ s ∈ S, stopB s = true) {O : List Int} (ho : ∀ x ∈ O, 0 ≤ x ∧ x < S.length) (k : Nat) : loadT S (O.take k) ≤ loadT S O := by
  have h1 : 0 ≤ loadT S (O.drop k) := (loadT_ok hS (fun x hx => ho x (List.mem_of_mem_drop hx))).1
  have h2 : loadT S (O.take k ++ O.drop k) = loadT S (O.take k) + loadT S (O.drop k) := by simp only [loadT, List.map_append, List.sum_append]
  rw [List.take_append_drop] at h2
  omega
/-- the first stops of a possible ride are a possible ride -/
theorem ride_take {b r : Int} {G : List (List Int)} {S : List Sp} {O : List Int} {d : Dv} (h : rideT b r G S O = some d) (k : Nat) : ∃ e, rideT b r G S (O.take k) = some e := by
  obtain ⟨h1, h2⟩ := ride_some h
  obtain ⟨e, he, hr, _⟩ := drive_some h2
  obtain ⟨hT, hN, hI⟩ := (orderB_iff _ _ _ _ _).1 h1
  have ho : orderB b r G S (O.take k) = true := (orderB_iff _ _ _ _ _).2 ⟨hT, hN.sublist (List.take_sublist k O), take_in hI k⟩
  have hl := load_le hT.stops hI k
  have he' : runT G S (O.take k ++ O.drop k) ⟨[], b, loadT S O, loadT S O, 0, 0⟩ = some e := by rw [List.take_append_drop]; exact he
  obtain ⟨e2, he2, hk2⟩ := run_less (d := ⟨[], b, loadT S (O.take k), loadT S (O.take k), 0, 0⟩) (d' := ⟨[], b, loadT S O, loadT S O, 0, 0⟩) (o1 := O.take k) (o2 := O.drop k) rfl rfl hl hl he'
  exact ⟨_, (rideT_yes ho).trans (driveT_yes he2 (by omega))⟩
/-- of a possible ride the latest begin is not before the begin -/
theorem late_of {b r : Int} {G : List (List Int)} {S : List Sp} {O : List Int} {d : Dv} {x : Int} {y : Bool} (h : rideT b r G S O = some d) (hl : LateV b r G S O x y) :
    y = true ∧ b ≤ x ∧ x ≤ 20000 ∧ (∃ e, rideT x r G S O = some e) ∧ rideT (x + 1) r G S O = none := by
  obtain ⟨h1, h2⟩ := ride_some h
  obtain ⟨hT, hN, hI⟩ := (orderB_iff _ _ _ _ _).1 h1
  have hb0 := hT.b0; have hb1 := hT.b1
  rcases hl with ⟨h3, _⟩ | ⟨_, z, hz, hv⟩
  · rw [h1] at h3; cases h3
  have hbz : b < z := by
    rcases Int.lt_or_le b z with h4 | h4
    · exact h4
    · rw [hz.no b h4 hb1] at h2; cases h2
  have hz1 := hz.z1
  rcases hv with ⟨h4, _⟩ | ⟨h4, rfl, rfl⟩
  · omega
  have hy := hz.yes (z - 1) (by omega) (by omega)
  refine ⟨rfl, by omega, by omega, ?_, ?_⟩
  · rw [rideT_yes (orderB_begin h1 (by omega) (by omega))]
    cases hd : driveT (z - 1) r G S O with
    | none => rw [hd] at hy; cases hy
    | some e => exact ⟨e, rfl⟩
  · have e1 : z - 1 + 1 = z := by omega
    rw [e1]
    by_cases hz2 : z ≤ 20000
    · rw [rideT_yes (orderB_begin h1 (by omega) hz2)]; exact hz.no z (Int.le_refl _) hz2
    · refine rideT_no ?_
      cases hq : orderB z r G S O with
      | false => rfl
      | true => have := ((orderB_iff _ _ _ _ _).1 hq).1.b1; omega
/-- where no ride is possible, the latest begin lies before the begin -/
theorem late_none {b r : Int} {G : List (List Int)} {S : List Sp} {O : List Int} {x : Int} {y : Bool} (h : rideT b r G S O = none) (hl : LateV b r G S O x y) : y = false ∨ y = true ∧ x < b := by
  rcases hl with ⟨_, _, rfl⟩ | ⟨h1, z, hz, ⟨_, _, rfl⟩ | ⟨h4, rfl, rfl⟩⟩
  · exact .inl rfl
  · exact .inl rfl
  · refine .inr ⟨rfl, ?_⟩
    rw [rideT_yes h1] at h
    have hb0 := ((orderB_iff _ _ _ _ _).1 h1).1.b0
    rcases Int.lt_or_le b z with h5 | h5
    · have := hz.yes b hb0 h5; rw [h] at this; cases this
    · omega
/-- an earlier begin -/
theorem ride_early {b r t : Int} {G : List (List Int)} {S : List Sp} {O : List Int} {d : Dv} (h : rideT b r G S O = some d) (h0 : 0 ≤ t) (h1 : t ≤ b) : ∃ e, rideT t r G S O = some e ∧ e.fin ≤ d.fin := by
  obtain ⟨h3, h2⟩ := ride_some h
  have hb1 := ((orderB_iff _ _ _ _ _).1 h3).1.b1
  obtain ⟨e, he, hf, _⟩ := drive_mono h1 h2
  exact ⟨e, (rideT_yes (orderB_begin h3 h0 (by omega))).trans he, hf⟩
theorem ride_peak {b r : Int} {G : List (List Int)} {S : List Sp} {O : List Int} {d : Dv} (h : rideT b r G S O = some d) : d.peak ≤ r := by
  obtain ⟨e, he, hr, rfl⟩ := drive_some (ride_some h).2
  exact hr
/-- what is driven and worked on the way: the end of the k-th stop without what was waited -/
structure Leg7 (b : Int) (G : List (List Int)) (S : List Sp) (O : List Int) (k : Nat) (l p : Int) : Prop where
  ex : ∃ d, runT G S (O.take k) ⟨[], b, loadT S O, loadT S O, 0, 0⟩ = some d ∧ DvOk S k d ∧ d.fin - d.wait - b = l ∧ d.place = p
theorem leg7_0 {b r : Int} {G : List (List Int)} {S : List Sp} {O : List Int} (h : orderB b r G S O = true) : Leg7 b G S O 0 0 0 :=
  ⟨⟨_, rfl, dv0 (ordT_of h).1 (ordT_of h).2, by dsimp only; omega, rfl⟩⟩
theorem leg7_range {b r : Int} {G : List (List Int)} {S : List Sp} {O : List Int} {k : Nat} {l p : Int} (hb : 0 ≤ b ∧ b ≤ 20000) (hk : k ≤ 6) (h : Leg7 b G S O k l p) : -200000 ≤ l ∧ l ≤ 200000 ∧ 0 ≤ p ∧ p ≤ S.length := by
  obtain ⟨d, _, ⟨g1, g2, g3, g4, g5, g6, g7, g8, g9, g10, g11⟩, rfl, rfl⟩ := h.ex
  refine ⟨?_, ?_, ?_, ?_⟩ <;> omega
theorem leg7_next {b r : Int} {G : List (List Int)} {S : List Sp} {O : List Int} {k : Nat} {l p i : Int} {d : Dv} (h : rideT b r G S O = some d) (hx : O[k]? = some i) (hl : Leg7 b G S O k l p) : Leg7 b G S O (k + 1) (l + legT G p (i + 1) + (stopT S i).work) (i + 1) := by
  obtain ⟨h1, h2⟩ := ride_some h
  obtain ⟨e, he, _, _⟩ := drive_some h2
  have hTQ := ordT_of h1
  obtain ⟨dk, hdk, hok, rfl, rfl⟩ := hl.ex
  have hkl : k < O.length := (List.getElem?_eq_some_iff.1 hx).1
  have hir := hTQ.2.at_ i (List.mem_of_getElem? hx)
  have h6 := hTQ.2.six; have hol := hTQ.2.len
  have hn := runT_take hx hdk
  cases hs : stepT G S dk i with
  | none =>
    rw [hs] at hn
    rw [runT_stop hn] at he; cases he
  | some dn =>
    rw [hs] at hn
    have hok2 := stepT_ok hTQ.1 (by omega) hok hir.1 hir.2 hs
    refine ⟨⟨dn, hn, hok2, ?_, ?_⟩⟩ <;>
    · unfold stepT at hs
      split at hs
      · cases hs
      · injection hs with hs
        subst hs
        dsimp only <;> omega
theorem leg7_end {b r : Int} {G : List (List Int)} {S : List Sp} {O : List Int} {l p : Int} {d : Dv} (h : rideT b r G S O = some d) (hl : Leg7 b G S O O.length l p) : d.wait = d.fin - b - (if O = [] then l else l + legT G p 0) := by
  obtain ⟨h1, h2⟩ := ride_some h
  obtain ⟨e, he, _, rfl⟩ := drive_some h2
  obtain ⟨dk, hdk, hok, rfl, rfl⟩ := hl.ex
  rw [List.take_length, he] at hdk
  injection hdk with hdk; subst hdk
  dsimp only
  unfold homeT
  split <;> omega
theorem ride_fin {b r : Int} {G : List (List Int)} {S : List Sp} {O : List Int} {d : Dv} (h : rideT b r G S O = some d) : 0 ≤ d.fin ∧ d.fin ≤ 20400 := by
  obtain ⟨h1, h2⟩ := ride_some h
  obtain ⟨e, he, _, rfl⟩ := drive_some h2
  have hTQ := ordT_of h1
  have h6 := hTQ.2.six; have hol := hTQ.2.len
  have key : ∀ k, k ≤ O.length → ∃ dk, runT G S (O.take k) ⟨[], b, loadT S O, loadT S O, 0, 0⟩ = some dk ∧ DvOk S k dk := by
    intro k
    induction k with
    | zero => intro _; exact ⟨_, rfl, dv0 hTQ.1 hTQ.2⟩
    | succ k ih =>
      intro hk
      obtain ⟨dk, hdk, hok⟩ := ih (by omega)
      have hx : O[k]? = some O[k] := List.getElem?_eq_getElem (by omega)
      have hir := hTQ.2.at_ _ (List.mem_of_getElem? hx)
      have hn := runT_take hx hdk
      cases hs : stepT G S dk O[k] with
      | none => rw [hs] at hn; rw [runT_stop hn] at he; cases he
      | some dn => rw [hs] at hn; exact ⟨dn, hn, stepT_ok hTQ.1 (by omega) hok hir.1 hir.2 hs⟩
  obtain ⟨dk, hdk, hok⟩ := key O.length (Nat.le_refl _)
  rw [List.take_length, he] at hdk
  injection hdk with hdk; subst hdk
  obtain ⟨g1, g2, g3, g4, g5, g6, g7, g8, g9, g10, g11⟩ := hok
  have hlg := leg_in hTQ.1 g10 g11 (show (0 : Int) ≤ 0 by omega) (by omega)
  dsimp only
  unfold homeT
  split <;> omega
theorem peakT_none {b r : Int} {G : List (List Int)} {S : List Sp} {O : List Int} (h : rideT b r G S O = none) : peakT b r G S O = -1 := by rw [peakT, h]
theorem waitT_none {b r : Int} {G : List (List Int)} {S : List Sp} {O : List Int} (h : rideT b r G S O = none) : waitT b r G S O = -1 := by rw [waitT, h]
theorem peakT_some {b r : Int} {G : List (List Int)} {S : List Sp} {O : List Int} {d : Dv} (h : rideT b r G S O = some d) : peakT b r G S O = d.peak := by rw [peakT, h]
theorem waitT_some {b r : Int} {G : List (List Int)} {S : List Sp} {O : List Int} {d : Dv} (h : rideT b r G S O = some d) : waitT b r G S O = d.wait := by rw [waitT, h]
end Go.Proofs.Ytmaclochdmndkaa
