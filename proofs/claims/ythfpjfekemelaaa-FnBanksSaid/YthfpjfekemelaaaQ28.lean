/- Chapter 2: a parcel that was put in is taken out again: plain facts. -/
import Derived.Test.YthfpjfekemelaaaQ14
import Derived.Test.YthfpjfekemelaaaQ27
namespace Go.Proofs.Ythfpjfekemelaaa
open Go.RowKit
set_option linter.unusedVariables false

theorem take_new {z : Int} {F : List Int} {L : List Bx} {p : Int} {nb : Bx} (hok : ColOk z F L) (hm : nb ∈ L) (hp : nb.par = p) (h1 : 0 < p) (hj : nb.jam = false) (hu : ∀ b ∈ L, b.par = p → b = nb) {z' : Int} {F' : List Int} {L' : List Bx} {q : Bool} (h : takeR z F L p z' F' L' q) :
    z' = z ∧ F' = F ∧ q = true ∧ ∃ j : Nat, L[j]? = some nb ∧ L' = L.set j ⟨nb.low, nb.size, 0, nb.jam⟩ := by
  obtain ⟨rfl, rfl, h⟩ := h
  refine ⟨rfl, rfl, ?_⟩
  rcases h with ⟨j, x, ⟨_, hi, hx, hjx⟩, rfl, rfl⟩ | ⟨hn, _, _⟩
  · rcases fIdx_cases (hasP0 p) L 0 with ⟨h2, _⟩ | ⟨j', x', h2, h3, h4⟩
    · omega
    · have : j = j' := by omega
      subst this
      have hxx : x = x' := by have := hx.symm.trans h3; injection this
      subst hxx
      have hxp : x.par = p := by simp [hasP0] at h4; exact h4.1
      obtain rfl := hu x (List.mem_of_getElem? hx) hxp
      exact ⟨rfl, j, hx, rfl⟩
  · exfalso
    rcases fIdx_cases (hasP0 p) L 0 with ⟨_, h3⟩ | ⟨j', x', h2, h3, h4⟩
    · have := h3 nb hm
      simp [hasP0, hp, h1] at this
    · have hxp : x'.par = p := by simp [hasP0] at h4; exact h4.1
      obtain rfl := hu x' (List.mem_of_getElem? h3) hxp
      exact hn j' x' ⟨hok, by rw [h2]; simp, h3, hj⟩
theorem take_none {z : Int} {F : List Int} {L : List Bx} {p : Int} (hu : ∀ b ∈ L, b.par ≠ p) {z' : Int} {F' : List Int} {L' : List Bx} {q : Bool} (h : takeR z F L p z' F' L' q) : z' = z ∧ F' = F ∧ q = false ∧ L' = L := by
  obtain ⟨rfl, rfl, h⟩ := h
  refine ⟨rfl, rfl, ?_⟩
  rcases h with ⟨j, x, ⟨_, hi, hx, hjx⟩, _, _⟩ | ⟨_, rfl, rfl⟩
  · exfalso
    rcases fIdx_cases (hasP0 p) L 0 with ⟨h2, _⟩ | ⟨j', x', h2, h3, h4⟩
    · omega
    · simp [hasP0] at h4
      exact hu x' (List.mem_of_getElem? h3) h4.1
  · exact ⟨rfl, rfl⟩
/-- all that the law asks of a parcel that was put in and taken out -/
structure BoxF (z : Int) (F : List Int) (L L1 L2 : List Bx) (p size low : Int) : Prop where
  ok1 : ColOk z F L1
  ok2 : ColOk z F L2
  fit : ∃ g, fitV (gapsO z F L) size = (g, true) ∧ g.low = low ∧ size ≤ g.size
  r1 : gsum (gapsO z F L1) = gsum (gapsO z F L) - size
  r2 : gsum (gapsO z F L2) = gsum (gapsO z F L)
theorem box_facts {z : Int} {F : List Int} {L L1 : List Bx} {p size low : Int} {z1 : Int} {F1 : List Int} (h : putR z F L p size z1 F1 L1 low true) :
    z1 = z ∧ F1 = F ∧ 0 < p ∧ ∃ nb : Bx, ColOk z F L1 ∧ nb ∈ L1 ∧ nb.par = p ∧ nb.jam = false ∧ (∀ b ∈ L1, b.par = p → b = nb) ∧
      ∀ (j : Nat) (L2 : List Bx), L1[j]? = some nb → L2 = L1.set j ⟨nb.low, nb.size, 0, nb.jam⟩ → (∀ b ∈ L2, b.par ≠ p) ∧ BoxF z F L L1 L2 p size low := by
  obtain ⟨rfl, rfl, h⟩ := h
  rcases h with ⟨hc, rfl, hi, _⟩ | ⟨_, _, _, h⟩
  rotate_left
  · cases h
  have hp := hc.2.1
  obtain ⟨g, hg, hok, hs1, hs2, _, ho, hz, hm, hu, _⟩ := col_put hc
  rw [hg] at hi ⊢
  dsimp only at hi ⊢
  refine ⟨rfl, rfl, by omega, _, ho, hm, rfl, rfl, hu, fun j L2 hj hL2 => ?_⟩
  subst hL2
  have ho2 := col_zero ho hj
  refine ⟨col_only ho hj rfl (by omega), ho, ho2, ⟨g, hg, hi.symm, hs2⟩, ?_, ?_⟩
  · rw [gapsO_ok ho, gapsO_ok hok, gaps_open _ _ _ _ (Nat.le_refl _), gaps_open _ _ _ _ (Nat.le_refl _), hz]
  · rw [gapsO_ok ho2, gapsO_ok hok, gaps_open _ _ _ _ (Nat.le_refl _), gaps_open _ _ _ _ (Nat.le_refl _)]
    have := open_zero hj (show (0 : Int) < p by omega) rfl
    rw [this, hz]; dsimp only; omega
theorem box_no {z : Int} {F : List Int} {L L1 : List Bx} {p size low : Int} {z1 : Int} {F1 : List Int} (h : putR z F L p size z1 F1 L1 low false) : z1 = z ∧ F1 = F ∧ L1 = L ∧ low = -1 := by
  obtain ⟨rfl, rfl, h⟩ := h
  rcases h with ⟨_, _, _, h⟩ | ⟨_, rfl, rfl, _⟩
  · cases h
  · exact ⟨rfl, rfl, rfl, rfl⟩
end Go.Proofs.Ythfpjfekemelaaa
namespace Go.Proofs.Ythfpjfekemelaaa
open Go.RowKit
set_option linter.unusedVariables false

theorem leastG_min (size : Int) : ∀ (r : List Gp) (k : Nat) (b : Option (Nat × Int)) (y : Nat × Int), leastG size r k b = some y → (∀ g ∈ r, size ≤ g.size → y.2 ≤ g.size) ∧ ∀ y0, b = some y0 → y.2 ≤ y0.2
  | [], _, b, y, h => by
    have h : b = some y := h
    subst h
    exact ⟨fun g hg => (by cases hg), fun y0 e => by injection e with e; subst e; exact Int.le_refl _⟩
  | g :: r, k, b, y, h => by
    unfold leastG at h
    by_cases c : size ≤ g.size ∧ ∀ y, b = some y → g.size < y.2
    · rw [if_pos c] at h
      obtain ⟨h1, h2⟩ := leastG_min size r (k + 1) _ y h
      have h3 := h2 _ rfl
      dsimp only at h3
      refine ⟨fun g' hg' hs => ?_, fun y0 e => ?_⟩
      · rcases List.mem_cons.1 hg' with rfl | hg'
        · exact h3
        · exact h1 g' hg' hs
      · have := c.2 y0 e; omega
    · rw [if_neg c] at h
      obtain ⟨h1, h2⟩ := leastG_min size r (k + 1) b y h
      refine ⟨fun g' hg' hs => ?_, h2⟩
      rcases List.mem_cons.1 hg' with rfl | hg'
      · cases b with
        | none => exact absurd ⟨hs, fun y e => (by cases e)⟩ c
        | some y0 =>
          have := h2 y0 rfl
          by_cases e : g'.size < y0.2
          · exact absurd ⟨hs, fun y e' => by injection e' with e'; subst e'; exact e⟩ c
          · omega
      · exact h1 g' hg' hs
/-- no gap that is enough is smaller -/
theorem fit_least {G : List Gp} {size : Int} {f : Gp} (h : fitV G size = (f, true)) : ∀ g ∈ G, size ≤ g.size → f.size ≤ g.size := by
  unfold fitV at h
  by_cases hs : 1 ≤ size
  · rw [if_pos hs] at h
    cases e : leastG size G 0 none with
    | none => rw [e] at h; injection h with _ h; cases h
    | some y =>
      rw [e] at h
      obtain ⟨g', hg', hv⟩ := leastG_at size G G 0 none (by simp) (fun y hy => by cases hy) y e
      injection h with h _
      rw [hg'] at h
      have h : g' = f := h
      subst h
      rw [hv]
      exact (leastG_min size G 0 none y e).1
  · rw [if_neg hs] at h; injection h with _ h; cases h
end Go.Proofs.Ythfpjfekemelaaa
namespace Go.Proofs.Ythfpjfekemelaaa
open Go.RowKit
set_option linter.unusedVariables false

/-- a parcel is put into any gap of a column that is enough -/
theorem col_fill {z : Int} {F : List Int} {L : List Bx} {p size : Int} {g : Gp} (hm : g ∈ gapsO z F L) (hs1 : 1 ≤ size) (hs2 : size ≤ g.size) (hp1 : 1 ≤ p) (hp2 : p ≤ 999) (hno : ∀ b ∈ L, b.par ≠ p) :
    0 ≤ g.low ∧ ColOk z F (fillL g p size L) ∧ openZ (fillL g p size L) = openZ L - size ∧ (⟨g.low, size, p, false⟩ : Bx) ∈ fillL g p size L ∧ (∀ b ∈ fillL g p size L, b.par = p → b = ⟨g.low, size, p, false⟩) ∧ (∀ b ∈ fillL g p size L, b.par = p ∨ b.par = 0 ∨ ∃ b' ∈ L, b'.par = b.par) ∧ (∀ b ∈ L, b.par ≠ 0 → b ∈ fillL g p size L) := by
  obtain ⟨hok, Q, y, r, hL, ho, hg, hQ, a', hc'⟩ := gapsO_mem hm
  have hc := con_all hok.box
  have hsum := col_sumZ hok
  have hpar := col_par hok
  have hwall := hok.wall
  have hfill : fillL g p size L = Q ++ newB g p size ++ r.drop (runN F r) := by
    rw [hg, hL]; exact fill_gap hQ hc'
  rw [hfill]
  obtain ⟨G, hG⟩ : ∃ G, G = y.size + runZ F r := ⟨_, rfl⟩
  have hgs : g.size = G := by rw [hg, hG]
  have hgl : g.low = y.low := by rw [hg]
  rw [hL] at hc hsum
  obtain ⟨c1, c2, c3, c4⟩ := con_app.1 hc
  rw [run_split F r] at c4
  obtain ⟨c5, c6⟩ := con_app.1 c4
  rw [← runZ_take] at c6
  have hq0 : 0 ≤ sumZ Q := sumZ_pos fun b hb => con_size c1 b hb
  obtain ⟨R, hR⟩ : ∃ R, R = (if size < g.size then [(⟨g.low + size, g.size - size, 0, false⟩ : Bx)] else []) := ⟨_, rfl⟩
  have hN : newB g p size = ⟨g.low, size, p, false⟩ :: R := by rw [hR]; rfl
  have hRz : sumZ R = g.size - size := by
    rw [hR]
    by_cases hlt : size < g.size
    · rw [if_pos hlt]; simp [sumZ]
    · rw [if_neg hlt]; simp [sumZ]; omega
  have hRo : ∀ b ∈ R, opn b = true ∧ b.par = 0 := by
    intro b hb
    rw [hR] at hb
    split at hb
    · simp at hb; subst hb; exact ⟨rfl, rfl⟩
    · cases hb
  have hRc : Con (g.low + size) R := by
    rw [hR]
    by_cases hlt : size < g.size
    · rw [if_pos hlt]; exact ⟨rfl, by dsimp only; omega, trivial⟩
    · rw [if_neg hlt]; trivial
  have hNz : sumZ (newB g p size) = G := by rw [hN, sumZ_cons, hRz]; dsimp only; omega
  have hrz : sumZ r = runZ F r + sumZ (r.drop (runN F r)) := by
    have : sumZ r = sumZ (r.take (runN F r)) + sumZ (r.drop (runN F r)) := by rw [← sumZ_app, ← run_split]
    rw [this, ← runZ_take]
  have hro : openZ r = runZ F r + openZ (r.drop (runN F r)) := by
    have : openZ r = openZ (r.take (runN F r)) + openZ (r.drop (runN F r)) := by rw [← openZ_app, ← run_split]
    rw [this, openZ_all fun b hb => (run_open F r b hb).1, ← runZ_take]
  have hDL : ∀ b ∈ r.drop (runN F r), b ∈ L := fun b hb => by rw [hL]; exact List.mem_append_right _ (List.mem_cons_of_mem _ (List.mem_of_mem_drop hb))
  have hQL : ∀ b ∈ Q, b ∈ L := fun b hb => by rw [hL]; exact List.mem_append_left _ hb
  have hmem : ∀ b ∈ Q ++ newB g p size ++ r.drop (runN F r), b ∈ L ∨ b = ⟨g.low, size, p, false⟩ ∨ b.par = 0 := fun b hb => by
    rw [hN] at hb
    rcases List.mem_append.1 hb with hb | hb
    · rcases List.mem_append.1 hb with hb | hb
      · exact .inl (hQL b hb)
      · rcases List.mem_cons.1 hb with rfl | hb
        · exact .inr (.inl rfl)
        · exact .inr (.inr (hRo b hb).2)
    · exact .inl (hDL b hb)
  refine ⟨by omega, ?_, ?_, ?_, ?_, ?_, ?_⟩
  · refine col_mk hok.fix ?_ ?_ (fun b hb => ?_) (fun u hu => ?_) ?_
    · refine con_mid c1 ?_ ?_
      · rw [hN]
        exact ⟨by dsimp only; omega, hs1, by dsimp only; rw [show 0 + sumZ Q + size = g.low + size by omega]; exact hRc⟩
      · rw [hNz]
        rw [show 0 + sumZ Q + G = 0 + sumZ Q + y.size + runZ F r by omega]; exact c6
    · rw [sumZ_app, sumZ_app, hNz]
      rw [sumZ_app, sumZ_cons, hrz] at hsum
      omega
    · rcases hmem b hb with hb | rfl | hb
      · exact hpar b hb
      · exact ⟨by dsimp only; omega, hp2⟩
      · omega
    · obtain ⟨b, hb, rfl⟩ := hwall u hu
      rw [hL] at hb
      rcases List.mem_append.1 hb with hb | hb
      · exact ⟨b, List.mem_append_left _ (List.mem_append_left _ hb), rfl⟩
      · rcases List.mem_cons.1 hb with rfl | hb
        · exact ⟨⟨g.low, size, p, false⟩, List.mem_append_left _ (List.mem_append_right _ (by rw [hN]; exact List.mem_cons_self)), hgl⟩
        · rw [run_split F r, List.mem_append] at hb
          rcases hb with hb | hb
          · have := (run_open F r b hb).2
            rw [show F.contains b.low = true by simpa using hu] at this; cases this
          · exact ⟨b, List.mem_append_right _ hb, rfl⟩
    · rw [hN, List.append_assoc, List.cons_append, dis_nodup, fil_mid, if_pos (by dsimp only; omega)]
      rw [List.map_append, List.filter_append, fil_zero fun b hb => (hRo b hb).1, List.nil_append]
      have hd := (dis_nodup _).1 hok.diff
      rw [hL, fil_mid, if_neg (by rw [(opn_zero ho).1]; omega), List.nil_append] at hd
      rw [run_split F r, List.map_append, List.filter_append, fil_zero fun b hb => (run_open F r b hb).1, List.nil_append] at hd
      refine (List.perm_middle.nodup_iff).2 (List.nodup_cons.2 ⟨fun hm => ?_, hd⟩)
      rcases List.mem_append.1 hm with hm | hm
      · obtain ⟨b, hb, e⟩ := List.mem_map.1 (List.mem_filter.1 hm).1
        exact hno b (hQL b hb) e
      · obtain ⟨b, hb, e⟩ := List.mem_map.1 (List.mem_filter.1 hm).1
        exact hno b (hDL b hb) e
  · rw [openZ_app, openZ_app, hN, openZ_no (by simp [opn]; omega), openZ_all fun b hb => (hRo b hb).1, hRz]
    rw [hL, openZ_app, openZ_yes ho, hro]
    omega
  · exact List.mem_append_left _ (List.mem_append_right _ (by rw [hN]; exact List.mem_cons_self))
  · intro b hb e
    rcases hmem b hb with hb | rfl | hb
    · exact absurd e (hno b hb)
    · rfl
    · omega
  · intro b hb
    rcases hmem b hb with hb | rfl | hb
    · exact .inr (.inr ⟨b, hb, rfl⟩)
    · exact .inl rfl
    · exact .inr (.inl hb)
  · intro b hb h0
    rw [hL] at hb
    rcases List.mem_append.1 hb with hb | hb
    · exact List.mem_append_left _ (List.mem_append_left _ hb)
    · rcases List.mem_cons.1 hb with rfl | hb
      · exact absurd (opn_zero ho).1 h0
      · rw [run_split F r, List.mem_append] at hb
        rcases hb with hb | hb
        · exact absurd (opn_zero (run_open F r b hb).1).1 h0
        · exact List.mem_append_right _ hb

theorem dis_repl {A B B' C : List Int} (h : Dis (A ++ B ++ C)) (h1 : Dis B') (h2 : ∀ q ∈ B', 0 < q → q ∈ B ∨ (q ∉ A ∧ q ∉ C)) : Dis (A ++ B' ++ C) := by
  unfold Dis at *
  rw [List.pairwise_append, List.pairwise_append] at h ⊢
  obtain ⟨⟨ha, hb, hab⟩, hc, hac⟩ := h
  refine ⟨⟨ha, h1, fun a ha' b hb' h0 e => ?_⟩, hc, fun a ha' b hb' h0 e => ?_⟩
  · rcases h2 b hb' h0 with h | ⟨h, _⟩
    · exact hab a ha' b h h0 e
    · exact h (e ▸ ha')
  · rcases List.mem_append.1 ha' with ha' | ha'
    · exact hac a (List.mem_append_left _ ha') b hb' h0 e
    · rcases h2 a ha' (e ▸ h0) with h | ⟨_, h⟩
      · exact hac a (List.mem_append_right _ h) b hb' h0 e
      · exact h (e ▸ hb')
theorem split_at {α : Type} {l : List α} {k : Nat} {x : α} (h : l[k]? = some x) (y : α) : l = l.take k ++ x :: l.drop (k + 1) ∧ l.set k y = l.take k ++ y :: l.drop (k + 1) := by
  have hk : k < l.length := (List.getElem?_eq_some_iff.1 h).1
  have hx : l[k] = x := (List.getElem?_eq_some_iff.1 h).2
  refine ⟨?_, ?_⟩
  · rw [← hx, ← List.drop_eq_getElem_cons hk, List.take_append_drop]
  · rw [List.set_eq_take_append_cons_drop, if_pos hk]
theorem allPars_at {l : List Cl} {k : Nat} {x : Cl} (h : l[k]? = some x) (y : Cl) : allPars l = allPars (l.take k) ++ parsOf x ++ allPars (l.drop (k + 1)) ∧ allPars (l.set k y) = allPars (l.take k) ++ parsOf y ++ allPars (l.drop (k + 1)) := by
  obtain ⟨h1, h2⟩ := split_at h y
  constructor
  · conv => lhs; rw [h1]
    simp [allPars]
  · rw [h2]; simp [allPars]
def opZ (l : List Cl) : Int := (l.map fun x => openZ x.L).sum
theorem bgL_open : ∀ (l : List Cl) (i : Int), gsum (bgL l i) = opZ l
  | [], _ => rfl
  | x :: r, i => by
    have e : gsum (bgL (x :: r) i) = gsum (gapsL x.F i x.L) + gsum (bgL r (i + 1)) := by simp [bgL, gsum]
    rw [e, gaps_open _ _ _ _ (Nat.le_refl _), bgL_open r]; simp [opZ]
theorem opZ_at {l : List Cl} {k : Nat} {x : Cl} (h : l[k]? = some x) (y : Cl) : opZ (l.set k y) = opZ l - openZ x.L + openZ y.L := by
  obtain ⟨h1, h2⟩ := split_at h y
  have e1 : opZ l = opZ (l.take k) + (openZ x.L + opZ (l.drop (k + 1))) := by
    conv => lhs; rw [h1]
    simp [opZ]
  rw [h2, e1]; simp [opZ]; omega
/-- a bank stays valid if one column is replaced by a valid one without new parcels but such as no other column has -/
theorem bank_set {l : List Cl} {k : Nat} {x y : Cl} (h : BankP l) (hx : l[k]? = some x) (hy : ColOk y.z y.F y.L) (hp : ∀ b ∈ y.L, 0 < b.par → (∃ b' ∈ x.L, b'.par = b.par) ∨ (∀ u ∈ l, ∀ b' ∈ u.L, b'.par ≠ b.par)) : BankP (l.set k y) := by
  obtain ⟨h1, h2, h3⟩ := h
  obtain ⟨e1, e2⟩ := allPars_at hx y
  refine ⟨by rw [List.length_set]; exact h1, fun u hu => ?_, ?_⟩
  · rcases List.mem_or_eq_of_mem_set hu with hu | rfl
    · exact h2 u hu
    · exact hy
  · rw [e2]
    rw [e1] at h3
    refine dis_repl h3 hy.diff fun q hq h0 => ?_
    obtain ⟨b, hb, rfl⟩ := List.mem_map.1 hq
    rcases hp b hb h0 with ⟨b', hb', e⟩ | hn
    · exact .inl (List.mem_map.2 ⟨b', hb', e⟩)
    · right
      have key : ∀ m : List Cl, (∀ u ∈ m, u ∈ l) → b.par ∉ allPars m := fun m hm hq => by
        obtain ⟨u, hu, hq⟩ := List.mem_flatMap.1 hq
        obtain ⟨b', hb', e⟩ := List.mem_map.1 hq
        exact hn u (hm u hu) b' hb' e
      exact ⟨key _ fun u hu => List.mem_of_mem_take hu, key _ fun u hu => List.mem_of_mem_drop hu⟩
/-- in a valid bank a parcel is in one box at most -/
theorem bank_uniq {l : List Cl} (h : BankP l) {k k' : Nat} {x x' : Cl} {y y' : Bx} (hx : l[k]? = some x) (hx' : l[k']? = some x') (hy : y ∈ x.L) (hy' : y' ∈ x'.L) (h0 : 0 < y.par) (e : y'.par = y.par) : k = k' ∧ x = x' ∧ y = y' := by
  have hkk : k = k' := by
    rcases Nat.lt_trichotomy k k' with hlt | rfl | hlt
    · exact absurd h.2.2 (dis_clash (p := y.par) hx' hx hlt h0 (List.mem_map.2 ⟨y', hy', e⟩) (List.mem_map.2 ⟨y, hy, rfl⟩))
    · rfl
    · exact absurd h.2.2 (dis_clash (p := y.par) hx hx' hlt h0 (List.mem_map.2 ⟨y, hy, rfl⟩) (List.mem_map.2 ⟨y', hy', e⟩))
  subst hkk
  rw [hx] at hx'; injection hx' with hx'; subst hx'
  refine ⟨rfl, rfl, ?_⟩
  have hd := (h.2.1 x (List.mem_of_getElem? hx)).diff
  unfold Dis at hd
  obtain ⟨i, hi⟩ := List.mem_iff_getElem?.1 hy
  obtain ⟨j, hj⟩ := List.mem_iff_getElem?.1 hy'
  rw [List.pairwise_iff_getElem] at hd
  have hil : i < x.L.length := (List.getElem?_eq_some_iff.1 hi).1
  have hjl : j < x.L.length := (List.getElem?_eq_some_iff.1 hj).1
  have hiv : x.L[i] = y := (List.getElem?_eq_some_iff.1 hi).2
  have hjv : x.L[j] = y' := (List.getElem?_eq_some_iff.1 hj).2
  rcases Nat.lt_trichotomy i j with hlt | rfl | hlt
  · have := hd i j (by simpa using hil) (by simpa using hjl) hlt
    simp only [List.getElem_map, hiv, hjv] at this
    exact absurd e.symm (this (by omega))
  · rw [hi] at hj; injection hj
  · have := hd j i (by simpa using hjl) (by simpa using hil) hlt
    simp only [List.getElem_map, hiv, hjv] at this
    exact absurd e (this h0)
/-- what BoxOf tells of a parcel of a valid bank -/
theorem bof_in {l : List Cl} (h : BankP l) {q a b : Int} (h0 : 0 < q) (hr : bofR l q a b) : (∃ (k : Nat) (x : Cl) (y : Bx), l[k]? = some x ∧ y ∈ x.L ∧ y.par = q ∧ a = (k : Int) ∧ b = y.low) ∨ ((∀ x ∈ l, ∀ y ∈ x.L, y.par ≠ q) ∧ a = -1 ∧ b = -1) := by
  rcases hr with ⟨k, x, j, y, ha, rfl, rfl⟩ | ⟨hn, rfl, rfl⟩
  · refine .inl ⟨k, x, y, ha.at_, List.mem_of_getElem? ha.in_, ?_, rfl, rfl⟩
    rcases fIdx_cases (hasP0 q) x.L 0 with ⟨h2, _⟩ | ⟨j', x', h2, h3, h4⟩
    · have := ha.box; omega
    · have : j = j' := by have := ha.box; omega
      subst this
      rw [ha.in_] at h3; injection h3 with h3; subst h3
      simp [hasP0] at h4; exact h4.1
  · refine .inr ⟨fun x hx y hy e => ?_, rfl, rfl⟩
    rcases gIdx_cases (hasC0 q) l 0 with ⟨_, h2⟩ | ⟨j, x', h1, h2, h3⟩
    · have h3 := h2 x hx
      simp only [hasC0, decide_eq_false_iff_not] at h3
      rcases fIdx_cases (hasP0 q) x.L 0 with ⟨_, h5⟩ | ⟨j', x', h5, h6, h7⟩
      · have := h5 y hy
        simp [hasP0, e, h0] at this
      · omega
    · simp only [hasC0, decide_eq_true_eq] at h3
      rcases fIdx_cases (hasP0 q) x'.L 0 with ⟨h5, _⟩ | ⟨j', y', h5, h6, h7⟩
      · omega
      · exact hn j x' j' y' ⟨h, by rw [h1]; simp, h2, by rw [h5]; simp, h6⟩
theorem bof_at {l : List Cl} (h : BankP l) {q a b : Int} (h0 : 0 < q) (hr : bofR l q a b) {k : Nat} {x : Cl} {y : Bx} (hx : l[k]? = some x) (hy : y ∈ x.L) (e : y.par = q) : a = (k : Int) ∧ b = y.low := by
  rcases bof_in h h0 hr with ⟨k', x', y', hx', hy', e', rfl, rfl⟩ | ⟨hn, _⟩
  · obtain ⟨rfl, rfl, rfl⟩ := bank_uniq h hx hx' hy hy' (by omega) (by omega)
    exact ⟨rfl, rfl⟩
  · exact absurd e (hn x (List.mem_of_getElem? hx) y hy)
theorem bof_none {l : List Cl} (h : BankP l) {q a b : Int} (h0 : 0 < q) (hr : bofR l q a b) (hn : ∀ x ∈ l, ∀ y ∈ x.L, y.par ≠ q) : a = -1 ∧ b = -1 := by
  rcases bof_in h h0 hr with ⟨k', x', y', hx', hy', e', _⟩ | ⟨_, h1⟩
  · exact absurd e' (hn x' (List.mem_of_getElem? hx') y' hy')
  · exact h1
/-- all that the law asks of a parcel that was put into a bank -/
theorem bank_facts {l l1 : List Cl} {p size : Int} {g : Gp} (h : bkPt l p size (l1.map cont) g true) :
    ∃ f : Gp, fitV (bgO l) size = (f, true) ∧ g = ⟨f.col, f.low, size⟩ ∧ size ≤ f.size ∧ BankP l ∧ BankP l1 ∧
      (∀ q a b c d, 1 ≤ q → bofR l q a b → bofR l1 q c d → (q ≠ p → a = c ∧ b = d) ∧ (q = p → a = -1 ∧ c = f.col ∧ d = f.low)) ∧
      (∀ (l2 : List Cl) (b : Bool), bkTk l1 p (l2.map cont) b → b = true ∧ BankP l2 ∧ gsum (bgO l2) = gsum (bgO l)) := by
  rcases h with ⟨⟨hf, ⟨hp1, hp2⟩, hidx⟩, ⟨k, x, hx, hk, hC⟩, hg, _⟩ | ⟨_, _, _, h⟩
  rotate_left
  · cases h
  obtain ⟨⟨f, q0⟩, hv⟩ : ∃ v, fitV (bgO l) size = v := ⟨_, rfl⟩
  rw [hv] at hf hk hC hg
  obtain rfl : q0 = true := hf
  dsimp only at hk hC hg
  obtain ⟨hs1, hs2, hm⟩ := fit_facts hv
  obtain ⟨hbp, k', x', Q, y, r, hx', hok, hL, ho, hfe, hQ, a', hc'⟩ := bgO_mem hm
  have hkk : k' = k := by have : f.col = (k' : Int) := by rw [hfe]
                          omega
  subst hkk
  rw [hx] at hx'; injection hx' with hx'; subst hx'
  have hno : ∀ u ∈ l, ∀ b ∈ u.L, b.par ≠ p := fun u hu b hb e => by
    rcases gIdx_cases (hasC p) l 0 with ⟨_, h2⟩ | ⟨j, _, h1, _⟩
    · have h3 := h2 u hu
      simp only [hasC, decide_eq_false_iff_not] at h3
      have := fIdx_no (by omega : fIdx (hasP p) u.L 0 < 0) b hb
      simp [hasP, e] at this
    · omega
  have hmk : (⟨0, f.low, f.size⟩ : Gp) ∈ gapsO x.z x.F x.L := by
    rw [gapsO_ok hok]
    rw [bgO_ok hbp] at hm
    obtain ⟨k2, x2, hx2, hm2⟩ := bgL_mem l 0 f hm
    have hc2 : f.col = (k2 : Int) := by
      rw [gapsL_num x2.F 0 (0 + (k2 : Int)) x2.L] at hm2
      obtain ⟨g', _, e⟩ := List.mem_map.1 hm2
      rw [← e]; simp
    have : k2 = k' := by omega
    subst this
    rw [hx] at hx2; injection hx2 with hx2; subst hx2
    rw [gapsL_num x.F (0 + (k2 : Int)) 0 x.L]
    exact List.mem_map.2 ⟨f, hm2, rfl⟩
  have hfl : fillL f p size x.L = fillL ⟨0, f.low, f.size⟩ p size x.L := rfl
  obtain ⟨_, c1, c2, c3, c4, c5, c6⟩ := col_fill hmk hs1 hs2 hp1 hp2 (hno x (List.mem_of_getElem? hx))
  rw [← hfl] at c1 c2 c3 c4 c5 c6
  dsimp only at c3 c4
  obtain ⟨x1, hx1⟩ : ∃ x1 : Cl, x1 = ⟨x.z, none, x.F, 0, none, fillL f p size x.L, 0⟩ := ⟨_, rfl⟩
  have hcont : (l.set k' x1).map cont = l1.map cont := by rw [hC, List.map_set, hx1]; rfl
  have hkl : k' < l.length := (List.getElem?_eq_some_iff.1 hx).1
  have hat : (l.set k' x1)[k']? = some x1 := by rw [List.getElem?_set_self hkl]
  have hx1L : x1.L = fillL f p size x.L := by rw [hx1]
  have hb1 : BankP (l.set k' x1) := bank_set hbp hx (by rw [hx1]; exact c1) fun b hb h0 => by
    rw [hx1L] at hb
    rcases c5 b hb with e | e | e
    · exact .inr (e ▸ hno)
    · omega
    · exact .inl e
  refine ⟨f, hv, hg, hs2, hbp, (bankP_cont hcont).1 hb1, fun q a b c d h0 hr1 hr2 => ?_, fun l2 b2 ht => ?_⟩
  · have hr2' := bofR_cont hcont.symm hr2
    constructor
    · intro hne
      rcases bof_in hbp (by omega) hr1 with ⟨k2, x2, y2, hx2, hy2, e2, rfl, rfl⟩ | ⟨hn, rfl, rfl⟩
      · by_cases hk2 : k2 = k'
        · subst hk2
          rw [hx] at hx2; injection hx2 with hx2; subst hx2
          have := bof_at hb1 (by omega) hr2' hat (y := y2) (by rw [hx1L]; exact c6 y2 hy2 (by omega)) e2
          exact ⟨this.1.symm, this.2.symm⟩
        · have := bof_at hb1 (by omega) hr2' (k := k2) (by rw [List.getElem?_set_ne (Ne.symm hk2)]; exact hx2) hy2 e2
          exact ⟨this.1.symm, this.2.symm⟩
      · have := bof_none hb1 (by omega) hr2' fun u hu b hb e => by
          rcases List.mem_or_eq_of_mem_set hu with hu | rfl
          · exact hn u hu b hb e
          · rw [hx1L] at hb
            rcases c5 b hb with e' | e' | ⟨b', hb', e'⟩
            · exact hne (e ▸ e')
            · omega
            · exact hn x (List.mem_of_getElem? hx) b' hb' (e'.trans e)
        exact ⟨this.1.symm, this.2.symm⟩
    · rintro rfl
      have h1 := bof_none hbp (by omega) hr1 hno
      have h2 := bof_at hb1 (by omega) hr2' hat (y := ⟨f.low, size, q, false⟩) (by rw [hx1L]; exact c3) rfl
      exact ⟨h1.1, by rw [hk]; exact h2.1, h2.2⟩
  · have ht' := bkTk_cont hcont.symm ht
    obtain ⟨a, b, hr, hcase⟩ := ht'
    have hnb := bof_at hb1 (by omega) hr hat (y := ⟨f.low, size, p, false⟩) (by rw [hx1L]; exact c3) rfl
    rcases hcase with ⟨hlt, _⟩ | ⟨k2, x2, z2, F2, L2, ha, hx2, htk, hC2⟩
    · omega
    · have hk2 : k2 = k' := by omega
      subst hk2
      rw [hat] at hx2; injection hx2 with hx2; subst hx2
      obtain ⟨rfl, rfl, rfl, j, hj, hL2⟩ := take_new (nb := ⟨f.low, size, p, false⟩) (hb1.2.1 x1 (List.mem_of_getElem? hat)) (by rw [hx1L]; exact c3) rfl (show (0 : Int) < p by omega) rfl (fun b hb e => c4 b (by rw [← hx1L]; exact hb) e) htk
      dsimp only at hL2
      obtain ⟨x3, hx3⟩ : ∃ x3 : Cl, x3 = ⟨x1.z, none, x1.F, 0, none, L2, 0⟩ := ⟨_, rfl⟩
      have hc3 : ((l.set k2 x1).set k2 x3).map cont = l2.map cont := by rw [hC2, List.map_set, hx3]; rfl
      have ho1 := hb1.2.1 x1 (List.mem_of_getElem? hat)
      have hb3 : BankP ((l.set k2 x1).set k2 x3) := bank_set hb1 hat (by rw [hx3, hL2]; exact col_zero ho1 hj) fun b hb h0 => by
        rw [hx3, hL2] at hb
        rcases List.mem_or_eq_of_mem_set hb with hb | rfl
        · exact .inl ⟨b, hb, rfl⟩
        · exact absurd h0 (Int.lt_irrefl 0)
      refine ⟨rfl, (bankP_cont hc3).1 hb3, ?_⟩
      rw [← bgO_cont hc3, bgO_ok hb3, bgO_ok hbp, bgL_open, bgL_open, opZ_at hat, opZ_at hx]
      have e3 : x3.L = x1.L.set j ⟨f.low, size, 0, false⟩ := by rw [hx3, hL2]
      have e4 := open_zero hj (show (0 : Int) < p by omega) rfl
      dsimp only at e4
      rw [e3, e4, hx1L, c2]; omega
theorem bank_no {l l1 : List Cl} {p size : Int} {g : Gp} (h : bkPt l p size (l1.map cont) g false) : l1.map cont = l.map cont := by
  rcases h with ⟨_, _, _, h⟩ | ⟨_, h, _, _⟩
  · cases h
  · exact h
end Go.Proofs.Ythfpjfekemelaaa
