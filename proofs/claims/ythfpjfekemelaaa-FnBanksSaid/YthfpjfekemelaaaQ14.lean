/- Chapter 2: columns stay valid; the room of gaps: plain facts. -/
import Derived.Test.YthfpjfekemelaaaQ13
import Derived.Deep.QuietTactic
import Derived.BigQuiet
namespace Go.Proofs.Ythfpjfekemelaaa
open Go.RowKit
set_option linter.unusedVariables false

theorem con_at : ∀ {L : List Bx} {a : Int}, Con a L → ∀ (k : Nat) (x : Bx), L[k]? = some x → x.low = a + lowAt L k ∧ 1 ≤ x.size
  | [], _, _, k, x, h => by simp at h
  | y :: r, a, hc, 0, x, h => by
    simp at h; subst h
    exact ⟨by rw [lowAt_zero]; have := hc.1; omega, hc.2.1⟩
  | y :: r, a, hc, k + 1, x, h => by
    obtain ⟨h1, h2⟩ := con_at hc.2.2 k x (by simpa using h)
    refine ⟨?_, h2⟩
    have e : lowAt (y :: r) (k + 1) = y.size + lowAt r k := by simp [lowAt]
    rw [e]; omega
theorem lowAt_all (L : List Bx) : lowAt L L.length = sumZ L := by unfold lowAt sumZ; rw [List.take_length]
theorem col_mk {z : Int} {F : List Int} {L : List Bx} (hF : FixOk z F) (hc : Con 0 L) (hs : sumZ L = z) (hp : ∀ b ∈ L, 0 ≤ b.par ∧ b.par ≤ 999) (hw : ∀ x ∈ F, ∃ b ∈ L, b.low = x) (hd : Dis (L.map Bx.par)) : ColOk z F L :=
  ⟨hF, fun k x _ hx => by
    obtain ⟨h1, h2⟩ := con_at hc k x hx
    obtain ⟨h3, h4⟩ := hp x (List.mem_of_getElem? hx)
    exact ⟨by omega, h2, h3, h4⟩, (lowAt_all L).trans hs, hw, hd⟩
theorem col_sumZ {z : Int} {F : List Int} {L : List Bx} (h : ColOk z F L) : sumZ L = z := (lowAt_all L).symm.trans h.top
theorem col_par {z : Int} {F : List Int} {L : List Bx} (h : ColOk z F L) : ∀ b ∈ L, 0 ≤ b.par ∧ b.par ≤ 999 := fun b hb => by
  obtain ⟨k, hk⟩ := List.getElem?_of_mem hb
  have := h.box k b (List.getElem?_eq_some_iff.1 hk).1 hk
  exact ⟨this.2.2.1, this.2.2.2⟩
theorem col_some {z : Int} {F : List Int} {L : List Bx} (h : ColOk z F L) : 1 ≤ L.length := by
  rcases L with _ | ⟨x, r⟩
  · have h1 := col_sumZ h; have h2 := h.fix.lo; simp [sumZ] at h1; omega
  · simp
/-- the units that are in gaps -/
def openZ (L : List Bx) : Int := sumZ (L.filter opn)
theorem openZ_app (L R : List Bx) : openZ (L ++ R) = openZ L + openZ R := by unfold openZ; rw [List.filter_append, sumZ_app]
theorem openZ_yes {x : Bx} {r : List Bx} (h : opn x = true) : openZ (x :: r) = x.size + openZ r := by unfold openZ; rw [List.filter_cons_of_pos h, sumZ_cons]
theorem openZ_no {x : Bx} {r : List Bx} (h : opn x = false) : openZ (x :: r) = openZ r := by unfold openZ; rw [List.filter_cons_of_neg (by simp [h])]
theorem openZ_all {L : List Bx} (h : ∀ b ∈ L, opn b = true) : openZ L = sumZ L := by unfold openZ; rw [List.filter_eq_self.2 h]
theorem run_open (F : List Int) : ∀ (r : List Bx), ∀ b ∈ r.take (runN F r), opn b = true ∧ F.contains b.low = false
  | [], b, hb => by simp at hb
  | x :: r, b, hb => by
    by_cases h : goOn F x = true
    · rw [(runZ_go h).2, List.take_succ_cons] at hb
      rcases List.mem_cons.1 hb with rfl | hb
      · simpa [goOn] using h
      · exact run_open F r b hb
    · rw [(runZ_no (by simpa using h)).2] at hb; simp at hb
theorem run_split (F : List Int) (r : List Bx) : r = r.take (runN F r) ++ r.drop (runN F r) := (List.take_append_drop _ _).symm
def gsum (l : List Gp) : Int := (l.map Gp.size).sum
theorem gaps_open (F : List Int) (c : Int) : ∀ (n : Nat) (R : List Bx), R.length ≤ n → gsum (gapsL F c R) = openZ R
  | _, [], _ => by simp [gsum, gapsL, gapsC, openZ, sumZ]
  | 0, x :: r, h => by simp at h
  | n + 1, x :: r, h => by
    by_cases ho : opn x = true
    · rw [gapsL_open ho, openZ_yes ho]
      have ih := gaps_open F c n (r.drop (runN F r)) (by simp at h ⊢; omega)
      have e : openZ r = openZ (r.take (runN F r)) + openZ (r.drop (runN F r)) := by rw [← openZ_app, ← run_split]
      rw [e, openZ_all fun b hb => (run_open F r b hb).1, ← runZ_take, ← ih]
      simp [gsum]; omega
    · have ho' : opn x = false := by simpa using ho
      rw [gapsL_shut ho', openZ_no ho']
      exact gaps_open F c n r (by simp at h; omega)
theorem clr_sum (F : List Int) : ∀ (n : Nat) (R : List Bx), R.length ≤ n → sumZ (clrL F R) = sumZ R
  | _, [], _ => by simp [clrL, clrC]
  | 0, x :: r, h => by simp at h
  | n + 1, x :: r, h => by
    by_cases ho : opn x = true
    · rw [clrL_open ho, sumZ_cons, sumZ_cons, clr_sum F n (r.drop (runN F r)) (by simp at h ⊢; omega)]
      have e : sumZ r = sumZ (r.take (runN F r)) + sumZ (r.drop (runN F r)) := by rw [← sumZ_app, ← run_split]
      rw [e, ← runZ_take]; dsimp only; omega
    · have ho' : opn x = false := by simpa using ho
      rw [clrL_shut ho', sumZ_cons, sumZ_cons, clr_sum F n r (by simp at h; omega)]
theorem clr_con (F : List Int) : ∀ (n : Nat) (R : List Bx) (a : Int), R.length ≤ n → Con a R → Con a (clrL F R)
  | _, [], _, _, _ => by simp [clrL, clrC, Con]
  | 0, x :: r, _, h, _ => by simp at h
  | n + 1, x :: r, a, h, hc => by
    obtain ⟨h1, h2, h3⟩ := hc
    by_cases ho : opn x = true
    · rw [clrL_open ho]
      have h3' := h3
      rw [run_split F r] at h3'
      obtain ⟨h4, h5⟩ := con_app.1 h3'
      rw [← runZ_take] at h5
      have hz : 0 ≤ runZ F r := by rw [runZ_take]; exact sumZ_pos fun y hy => con_size h4 y hy
      refine ⟨h1, by dsimp only; omega, ?_⟩
      dsimp only
      rw [← Int.add_assoc]
      exact clr_con F n _ _ (by simp at h ⊢; omega) h5
    · rw [clrL_shut (by simpa using ho)]
      exact ⟨h1, h2, clr_con F n r _ (by simp at h; omega) h3⟩
theorem clr_par (F : List Int) : ∀ (n : Nat) (R : List Bx), R.length ≤ n → ((clrL F R).map Bx.par).Sublist (R.map Bx.par)
  | _, [], _ => by simp [clrL, clrC]
  | 0, x :: r, h => by simp at h
  | n + 1, x :: r, h => by
    by_cases ho : opn x = true
    · rw [clrL_open ho]
      have ih := clr_par F n (r.drop (runN F r)) (by simp at h ⊢; omega)
      exact (ih.trans ((List.drop_sublist _ _).map _)).cons_cons _
    · rw [clrL_shut (by simpa using ho)]
      exact (clr_par F n r (by simp at h; omega)).cons_cons _
theorem clr_wall (F : List Int) : ∀ (n : Nat) (R : List Bx), R.length ≤ n → ∀ b ∈ R, F.contains b.low = true → ∃ b' ∈ clrL F R, b'.low = b.low
  | _, [], _, b, hb, _ => by cases hb
  | 0, x :: r, h, _, _, _ => by simp at h
  | n + 1, x :: r, h, b, hb, hw => by
    by_cases ho : opn x = true
    · rw [clrL_open ho]
      rcases List.mem_cons.1 hb with rfl | hb
      · exact ⟨_, List.mem_cons_self, rfl⟩
      · rw [run_split F r, List.mem_append] at hb
        rcases hb with hb | hb
        · have := (run_open F r b hb).2; rw [hw] at this; cases this
        · obtain ⟨b', h1, h2⟩ := clr_wall F n (r.drop (runN F r)) (by simp at h ⊢; omega) b hb hw
          exact ⟨b', List.mem_cons_of_mem _ h1, h2⟩
    · rw [clrL_shut (by simpa using ho)]
      rcases List.mem_cons.1 hb with rfl | hb
      · exact ⟨_, List.mem_cons_self, rfl⟩
      · obtain ⟨b', h1, h2⟩ := clr_wall F n r (by simp at h; omega) b hb hw
        exact ⟨b', List.mem_cons_of_mem _ h1, h2⟩
/-- no gap goes on at the head -/
def Stops (F : List Int) (R : List Bx) : Prop := ∀ y s, R = y :: s → goOn F y = false
theorem stops_run (F : List Int) : ∀ (r : List Bx), Stops F (r.drop (runN F r))
  | [], y, s, h => by simp at h
  | x :: r, y, s, h => by
    by_cases hg : goOn F x = true
    · rw [(runZ_go hg).2, List.drop_succ_cons] at h
      exact stops_run F r y s h
    · have hg' : goOn F x = false := by simpa using hg
      rw [(runZ_no hg').2, List.drop_zero] at h
      injection h with h1 _; subst h1; exact hg'
theorem stops_clr {F : List Int} {R : List Bx} (h : Stops F R) : Stops F (clrL F R) := by
  rcases R with _ | ⟨x, r⟩
  · intro y s e; simp [clrL, clrC] at e
  · have hx := h x r rfl
    intro y s e
    by_cases ho : opn x = true
    · rw [clrL_open ho] at e
      injection e with e1 _; subst e1
      unfold goOn at hx ⊢
      rw [ho, Bool.true_and] at hx
      dsimp only
      rw [hx, Bool.and_false]
    · have ho' : opn x = false := by simpa using ho
      rw [clrL_shut ho'] at e
      injection e with e1 _; subst e1
      unfold goOn; rw [ho', Bool.false_and]
theorem stops_zero {F : List Int} {R : List Bx} (h : Stops F R) : runZ F R = 0 ∧ runN F R = 0 := by
  rcases R with _ | ⟨x, r⟩
  · exact ⟨rfl, rfl⟩
  · exact runZ_no (h x r rfl)
theorem clr_gaps (F : List Int) (c : Int) : ∀ (n : Nat) (R : List Bx), R.length ≤ n → gapsL F c (clrL F R) = gapsL F c R
  | _, [], _ => by simp [clrL, clrC]
  | 0, x :: r, h => by simp at h
  | n + 1, x :: r, h => by
    by_cases ho : opn x = true
    · rw [clrL_open ho, gapsL_open ho]
      have ho2 : opn (⟨x.low, x.size + runZ F r, x.par, x.jam⟩ : Bx) = true := ho
      obtain ⟨z1, z2⟩ := stops_zero (stops_clr (stops_run F r))
      rw [gapsL_open ho2, z1, z2, List.drop_zero, Int.add_zero, clr_gaps F c n (r.drop (runN F r)) (by simp at h ⊢; omega)]
    · have ho' : opn x = false := by simpa using ho
      rw [clrL_shut ho', gapsL_shut ho', gapsL_shut ho', clr_gaps F c n r (by simp at h; omega)]
theorem dis_sub {P Q : List Int} (h : Dis Q) (hs : P.Sublist Q) : Dis P := by unfold Dis at *; exact h.sublist hs
theorem col_clr {z : Int} {F : List Int} {L : List Bx} (h : ColOk z F L) : ColOk z F (clrL F L) := by
  have hp := clr_par F L.length L (Nat.le_refl _)
  refine col_mk h.fix (clr_con F L.length L 0 (Nat.le_refl _) (con_all h.box)) ((clr_sum F L.length L (Nat.le_refl _)).trans (col_sumZ h)) (fun b hb => ?_) (fun x hx => ?_) (dis_sub h.diff hp)
  · obtain ⟨b', h1, h2⟩ := List.mem_map.1 (hp.subset (List.mem_map_of_mem hb))
    have := col_par h b' h1
    omega
  · obtain ⟨b, hb, rfl⟩ := h.wall x hx
    exact clr_wall F L.length L (Nat.le_refl _) b hb (by simpa using hx)
/-- all that is no gap -/
def othZ (L : List Bx) : Int := sumZ (L.filter fun b => decide (0 < b.par) || b.jam)
theorem oth_open : ∀ (L : List Bx), (∀ b ∈ L, 0 ≤ b.par) → openZ L + othZ L = sumZ L
  | [], _ => by simp [openZ, othZ, sumZ]
  | x :: r, h => by
    have ih := oth_open r fun b hb => h b (List.mem_cons_of_mem _ hb)
    have hx := h x List.mem_cons_self
    rw [sumZ_cons]
    unfold othZ at ih ⊢
    by_cases ho : opn x = true
    · obtain ⟨h1, h2⟩ := opn_zero ho
      rw [openZ_yes ho, List.filter_cons_of_neg (by simp [h1, h2])]; omega
    · have ho' : opn x = false := by simpa using ho
      rw [openZ_no ho', List.filter_cons_of_pos (by
        simp [opn] at ho'
        by_cases e : x.par = 0
        · simp [ho' e]
        · simp; left; omega), sumZ_cons]; omega
theorem room_col {z : Int} {F : List Int} {L : List Bx} (h : ColOk z F L) : gsum (gapsL F 0 L) + othZ L = z := by
  rw [gaps_open F 0 L.length L (Nat.le_refl _), oth_open L fun b hb => (col_par h b hb).1, col_sumZ h]
/-! boxes of parcels -/
theorem dis_nodup (P : List Int) : Dis P ↔ (P.filter fun a => decide (0 < a)).Nodup := by
  unfold Dis
  rw [List.nodup_iff_pairwise_ne, List.pairwise_filter]
  constructor
  · intro h; exact h.imp fun hab _ hb => hab (by simpa using hb)
  · intro h
    refine h.imp fun {a b} hab hb e => ?_
    subst e
    exact hab (by simpa using hb) (by simpa using hb) rfl
theorem fil_zero {Q : List Bx} (h : ∀ b ∈ Q, opn b = true) : ((Q.map Bx.par).filter fun a => decide (0 < a)) = [] := by
  rw [List.filter_eq_nil_iff]
  intro a ha
  obtain ⟨b, hb, rfl⟩ := List.mem_map.1 ha
  simp [(opn_zero (h b hb)).1]
theorem fIdx_no {q : Bx → Bool} {L : List Bx} (h : fIdx q L 0 < 0) : ∀ b ∈ L, q b = false := by
  rcases fIdx_cases q L 0 with ⟨_, h2⟩ | ⟨j, x, h1, _, _⟩
  · exact h2
  · omega
theorem set_split {L : List Bx} {j : Nat} {x : Bx} (h : L[j]? = some x) (y : Bx) : ∃ P S, L = P ++ x :: S ∧ L.set j y = P ++ y :: S := by
  have hj : j < L.length := (List.getElem?_eq_some_iff.1 h).1
  have hx : L[j] = x := (List.getElem?_eq_some_iff.1 h).2
  refine ⟨L.take j, L.drop (j + 1), ?_, List.set_eq_take_append_cons_drop.trans (if_pos hj)⟩
  rw [← hx, ← List.drop_eq_getElem_cons hj, List.take_append_drop]
/-- a box is changed, not its place -/
theorem col_swap {z : Int} {F : List Int} {P S : List Bx} {x y : Bx} (h : ColOk z F (P ++ x :: S)) (h1 : y.low = x.low) (h2 : y.size = x.size) (h3 : 0 ≤ y.par ∧ y.par ≤ 999) (hd : Dis ((P ++ y :: S).map Bx.par)) : ColOk z F (P ++ y :: S) := by
  refine col_mk h.fix ?_ ?_ (fun b hb => ?_) (fun u hu => ?_) hd
  · obtain ⟨c1, c2, c3, c4⟩ := con_app.1 (con_all h.box)
    exact con_app.2 ⟨c1, by omega, by omega, by rw [h2]; exact c4⟩
  · have := col_sumZ h
    rw [sumZ_app, sumZ_cons] at this ⊢
    omega
  · rcases List.mem_append.1 hb with hb | hb
    · exact col_par h b (List.mem_append_left _ hb)
    · rcases List.mem_cons.1 hb with rfl | hb
      · exact h3
      · exact col_par h b (List.mem_append_right _ (List.mem_cons_of_mem _ hb))
  · obtain ⟨b, hb, rfl⟩ := h.wall u hu
    rcases List.mem_append.1 hb with hb | hb
    · exact ⟨b, List.mem_append_left _ hb, rfl⟩
    · rcases List.mem_cons.1 hb with rfl | hb
      · exact ⟨y, List.mem_append_right _ List.mem_cons_self, h1⟩
      · exact ⟨b, List.mem_append_right _ (List.mem_cons_of_mem _ hb), rfl⟩
theorem fil_mid (P S : List Bx) (x : Bx) : (((P ++ x :: S).map Bx.par).filter fun a => decide (0 < a)) = ((P.map Bx.par).filter fun a => decide (0 < a)) ++ ((if 0 < x.par then [x.par] else []) ++ ((S.map Bx.par).filter fun a => decide (0 < a))) := by
  rw [List.map_append, List.filter_append, List.map_cons]
  by_cases h : 0 < x.par
  · rw [if_pos h, List.filter_cons_of_pos (by simpa using h)]; rfl
  · rw [if_neg h, List.filter_cons_of_neg (by simpa using h)]; rfl
theorem col_zero {z : Int} {F : List Int} {L : List Bx} {j : Nat} {x : Bx} (h : ColOk z F L) (hx : L[j]? = some x) : ColOk z F (L.set j ⟨x.low, x.size, 0, x.jam⟩) := by
  obtain ⟨P, S, e1, e2⟩ := set_split hx ⟨x.low, x.size, 0, x.jam⟩
  rw [e2]
  rw [e1] at h
  refine col_swap h rfl rfl ⟨Int.le_refl _, by dsimp only; omega⟩ ?_
  have hd := (dis_nodup _).1 h.diff
  rw [dis_nodup]
  rw [fil_mid] at hd ⊢
  rw [if_neg (by simp), List.nil_append]
  by_cases hp : 0 < x.par
  · rw [if_pos hp] at hd
    have := (List.perm_middle.nodup_iff).1 hd
    exact (List.nodup_cons.1 this).2
  · rw [if_neg hp] at hd; exact hd
theorem col_jam {z : Int} {F : List Int} {L : List Bx} {j : Nat} {x : Bx} {q : Bool} (h : ColOk z F L) (hx : L[j]? = some x) : ColOk z F (L.set j ⟨x.low, x.size, x.par, q⟩) := by
  obtain ⟨P, S, e1, e2⟩ := set_split hx ⟨x.low, x.size, x.par, q⟩
  rw [e2]
  rw [e1] at h
  refine col_swap h rfl rfl (col_par h x (List.mem_append_right _ List.mem_cons_self)) ?_
  have := h.diff
  rw [List.map_append, List.map_cons] at this ⊢
  exact this
/-- the only box with a parcel -/
theorem col_only {z : Int} {F : List Int} {L : List Bx} {j : Nat} {x : Bx} {p : Int} (h : ColOk z F L) (hx : L[j]? = some x) (hp : x.par = p) (h1 : 0 < p) : ∀ b ∈ L.set j ⟨x.low, x.size, 0, x.jam⟩, b.par ≠ p := by
  obtain ⟨P, S, e1, e2⟩ := set_split hx ⟨x.low, x.size, 0, x.jam⟩
  rw [e2]
  rw [e1] at h
  have hd := (dis_nodup _).1 h.diff
  rw [fil_mid, if_pos (by omega)] at hd
  have hn := (List.nodup_cons.1 ((List.perm_middle.nodup_iff).1 hd)).1
  intro b hb e
  rw [hp] at hn
  apply hn
  rcases List.mem_append.1 hb with hb | hb
  · exact List.mem_append_left _ (List.mem_filter.2 ⟨e ▸ List.mem_map_of_mem hb, by simpa using h1⟩)
  · rcases List.mem_cons.1 hb with rfl | hb
    · dsimp only at e; omega
    · exact List.mem_append_right _ (List.mem_filter.2 ⟨e ▸ List.mem_map_of_mem hb, by simpa using h1⟩)
theorem open_zero {L : List Bx} {j : Nat} {x : Bx} (hx : L[j]? = some x) (hp : 0 < x.par) (hj : x.jam = false) : openZ (L.set j ⟨x.low, x.size, 0, x.jam⟩) = openZ L + x.size := by
  obtain ⟨P, S, e1, e2⟩ := set_split hx ⟨x.low, x.size, 0, x.jam⟩
  rw [e2, e1, openZ_app, openZ_app, openZ_yes (by simp [opn, hj]), openZ_no (x := x) (by simp [opn]; intro e; omega)]
  dsimp only
  omega
theorem con_mid {Q M D : List Bx} {a : Int} (h1 : Con a Q) (h2 : Con (a + sumZ Q) M) (h3 : Con (a + sumZ Q + sumZ M) D) : Con a (Q ++ M ++ D) :=
  con_app.2 ⟨con_app.2 ⟨h1, h2⟩, by rw [sumZ_app, ← Int.add_assoc]; exact h3⟩
/-- a parcel is put into a column: all that is known of it -/
theorem col_put {z : Int} {F : List Int} {L : List Bx} {p size : Int} (h : PutC z F L p size) :
    ∃ (g : Gp), fitV (gapsO z F L) size = (g, true) ∧ ColOk z F L ∧ 1 ≤ size ∧ size ≤ g.size ∧ 0 ≤ g.low ∧ ColOk z F (fillL g p size L) ∧ openZ (fillL g p size L) = openZ L - size ∧ (⟨g.low, size, p, false⟩ : Bx) ∈ fillL g p size L ∧ (∀ b ∈ fillL g p size L, b.par = p → b = ⟨g.low, size, p, false⟩) ∧ (∀ b ∈ fillL g p size L, b.par = p ∨ b.par = 0 ∨ ∃ b' ∈ L, b'.par = b.par) := by
  obtain ⟨hf, ⟨hp1, hp2⟩, hidx⟩ := h
  obtain ⟨⟨g, q⟩, hv⟩ : ∃ v, fitV (gapsO z F L) size = v := ⟨_, rfl⟩
  rw [hv] at hf
  obtain rfl : q = true := hf
  obtain ⟨hs1, hs2, hm⟩ := fit_facts hv
  obtain ⟨hok, Q, y, r, hL, ho, hg, hQ, a', hc'⟩ := gapsO_mem hm
  have hno : ∀ b ∈ L, b.par ≠ p := fun b hb e => by
    have := fIdx_no hidx b hb
    simp [hasP, e] at this
  refine ⟨g, hv, hok, hs1, hs2, ?_⟩
  have hc := con_all hok.box
  have hsum := col_sumZ hok
  have hpar := col_par hok
  have hwall := hok.wall
  have hfill : fillL g p size L = Q ++ newB g p size ++ r.drop (runN F r) := by
    rw [hg, hL]; exact fill_gap hQ hc'
  rw [hfill]
  obtain ⟨G, hG⟩ : ∃ G, G = y.size + runZ F r := ⟨_, rfl⟩
  have hgs : g.size = G := by rw [hg, hG]
  have hgl : g.low = y.low := by rw [hg]
  rw [hL] at hc hsum
  obtain ⟨c1, c2, c3, c4⟩ := con_app.1 hc
  rw [run_split F r] at c4
  obtain ⟨c5, c6⟩ := con_app.1 c4
  rw [← runZ_take] at c6
  have hq0 : 0 ≤ sumZ Q := sumZ_pos fun b hb => con_size c1 b hb
  obtain ⟨R, hR⟩ : ∃ R, R = (if size < g.size then [(⟨g.low + size, g.size - size, 0, false⟩ : Bx)] else []) := ⟨_, rfl⟩
  have hN : newB g p size = ⟨g.low, size, p, false⟩ :: R := by rw [hR]; rfl
  have hRz : sumZ R = g.size - size := by
    rw [hR]
    by_cases hlt : size < g.size
    · rw [if_pos hlt]; simp [sumZ]
    · rw [if_neg hlt]; simp [sumZ]; omega
  have hRo : ∀ b ∈ R, opn b = true ∧ b.par = 0 := by
    intro b hb
    rw [hR] at hb
    split at hb
    · simp at hb; subst hb; exact ⟨rfl, rfl⟩
    · cases hb
  have hRc : Con (g.low + size) R := by
    rw [hR]
    by_cases hlt : size < g.size
    · rw [if_pos hlt]; exact ⟨rfl, by dsimp only; omega, trivial⟩
    · rw [if_neg hlt]; trivial
  have hNz : sumZ (newB g p size) = G := by rw [hN, sumZ_cons, hRz]; dsimp only; omega
  have hrz : sumZ r = runZ F r + sumZ (r.drop (runN F r)) := by
    have : sumZ r = sumZ (r.take (runN F r)) + sumZ (r.drop (runN F r)) := by rw [← sumZ_app, ← run_split]
    rw [this, ← runZ_take]
  have hro : openZ r = runZ F r + openZ (r.drop (runN F r)) := by
    have : openZ r = openZ (r.take (runN F r)) + openZ (r.drop (runN F r)) := by rw [← openZ_app, ← run_split]
    rw [this, openZ_all fun b hb => (run_open F r b hb).1, ← runZ_take]
  have hDL : ∀ b ∈ r.drop (runN F r), b ∈ L := fun b hb => by rw [hL]; exact List.mem_append_right _ (List.mem_cons_of_mem _ (List.mem_of_mem_drop hb))
  have hQL : ∀ b ∈ Q, b ∈ L := fun b hb => by rw [hL]; exact List.mem_append_left _ hb
  have hmem : ∀ b ∈ Q ++ newB g p size ++ r.drop (runN F r), b ∈ L ∨ b = ⟨g.low, size, p, false⟩ ∨ b.par = 0 := fun b hb => by
    rw [hN] at hb
    rcases List.mem_append.1 hb with hb | hb
    · rcases List.mem_append.1 hb with hb | hb
      · exact .inl (hQL b hb)
      · rcases List.mem_cons.1 hb with rfl | hb
        · exact .inr (.inl rfl)
        · exact .inr (.inr (hRo b hb).2)
    · exact .inl (hDL b hb)
  refine ⟨by omega, ?_, ?_, ?_, ?_, ?_⟩
  · refine col_mk hok.fix ?_ ?_ (fun b hb => ?_) (fun u hu => ?_) ?_
    · refine con_mid c1 ?_ ?_
      · rw [hN]
        exact ⟨by dsimp only; omega, hs1, by dsimp only; rw [show 0 + sumZ Q + size = g.low + size by omega]; exact hRc⟩
      · rw [hNz]
        rw [show 0 + sumZ Q + G = 0 + sumZ Q + y.size + runZ F r by omega]; exact c6
    · rw [sumZ_app, sumZ_app, hNz]
      rw [sumZ_app, sumZ_cons, hrz] at hsum
      omega
    · rcases hmem b hb with hb | rfl | hb
      · exact hpar b hb
      · exact ⟨by dsimp only; omega, hp2⟩
      · omega
    · obtain ⟨b, hb, rfl⟩ := hwall u hu
      rw [hL] at hb
      rcases List.mem_append.1 hb with hb | hb
      · exact ⟨b, List.mem_append_left _ (List.mem_append_left _ hb), rfl⟩
      · rcases List.mem_cons.1 hb with rfl | hb
        · exact ⟨⟨g.low, size, p, false⟩, List.mem_append_left _ (List.mem_append_right _ (by rw [hN]; exact List.mem_cons_self)), hgl⟩
        · rw [run_split F r, List.mem_append] at hb
          rcases hb with hb | hb
          · have := (run_open F r b hb).2
            rw [show F.contains b.low = true by simpa using hu] at this; cases this
          · exact ⟨b, List.mem_append_right _ hb, rfl⟩
    · rw [hN, List.append_assoc, List.cons_append, dis_nodup, fil_mid, if_pos (by dsimp only; omega)]
      rw [List.map_append, List.filter_append, fil_zero fun b hb => (hRo b hb).1, List.nil_append]
      have hd := (dis_nodup _).1 hok.diff
      rw [hL, fil_mid, if_neg (by rw [(opn_zero ho).1]; omega), List.nil_append] at hd
      rw [run_split F r, List.map_append, List.filter_append, fil_zero fun b hb => (run_open F r b hb).1, List.nil_append] at hd
      refine (List.perm_middle.nodup_iff).2 (List.nodup_cons.2 ⟨fun hm => ?_, hd⟩)
      rcases List.mem_append.1 hm with hm | hm
      · obtain ⟨b, hb, e⟩ := List.mem_map.1 (List.mem_filter.1 hm).1
        exact hno b (hQL b hb) e
      · obtain ⟨b, hb, e⟩ := List.mem_map.1 (List.mem_filter.1 hm).1
        exact hno b (hDL b hb) e
  · rw [openZ_app, openZ_app, hN, openZ_no (by simp [opn]; omega), openZ_all fun b hb => (hRo b hb).1, hRz]
    rw [hL, openZ_app, openZ_yes ho, hro]
    omega
  · exact List.mem_append_left _ (List.mem_append_right _ (by rw [hN]; exact List.mem_cons_self))
  · intro b hb e
    rcases hmem b hb with hb | rfl | hb
    · exact absurd e (hno b hb)
    · rfl
    · omega
  · intro b hb
    rcases hmem b hb with hb | rfl | hb
    · exact .inr (.inr ⟨b, hb, rfl⟩)
    · exact .inl rfl
    · exact .inr (.inl hb)
end Go.Proofs.Ythfpjfekemelaaa
namespace Go.Proofs.Ythfpjfekemelaaa
open Go.RowKit
set_option linter.unusedVariables false

theorem ans_finr {w w2 : World} {A2 A3 : Option Addr} {F L : List Value} {e1 e2 : TypeId} (r base : Nat) (hb : Below w.heap.size w w2) (hr : w.heap.size ≤ r) (hbase : r < base) (h2 : OR w2 base e1 A2 F) (h3 : OR w2 base e2 A3 L) (u v x : Value) :
    OR (((w2.setCell ⟨r, 0, none⟩ u).setCell ⟨r, 1, none⟩ v).setCell ⟨r, 2, none⟩ x) w.heap.size e1 A2 F ∧ OR (((w2.setCell ⟨r, 0, none⟩ u).setCell ⟨r, 1, none⟩ v).setCell ⟨r, 2, none⟩ x) w.heap.size e2 A3 L ∧ Below w.heap.size w (((w2.setCell ⟨r, 0, none⟩ u).setCell ⟨r, 1, none⟩ v).setCell ⟨r, 2, none⟩ x) :=
  ⟨(((h2.setlow (by show r < _; omega) _).setlow (by show r < _; omega) _).setlow (by show r < _; omega) _).more (by omega),
   (((h3.setlow (by show r < _; omega) _).setlow (by show r < _; omega) _).setlow (by show r < _; omega) _).more (by omega),
   ((hb.setCell hr _).setCell hr _).setCell hr _⟩

set_option maxRecDepth 100000 in
set_option maxHeartbeats 4000000 in
theorem jamS_any (w : World) (B : Nat) (x : Cl) (un : Int) (jm : Bool) (lf : x.F.length ≤ 1048576) (lb : x.L.length ≤ 1048576) (hB : B ≤ w.heap.size) (hV : CV w B x) :
    Calls Try.prog 83 #[.agg #[.int .i64 x.z, .slice x.AF x.F.length x.cF, .slice x.AB x.L.length x.cB], .int .i64 un, .bool jm] w (ColAnsB (jamR x.z x.F x.L un jm) w) := by
  have HV := Lib.hid hV; clear hV
  have hlm : x.L.length ≤ maxLen := by unfold maxLen; omega
  go_enter Try.func83, Try.ntmps83
  go_wp2_with fail
  generalize hW0 : (w.alloc (.cells #[.int .i64 x.z, .slice x.AF x.F.length x.cF, .slice x.AB x.L.length x.cB] 57)).alloc (.cells #[.int .i64 0, .slice none 0 0, .slice none 0 0] 57) = w0
  have b0 : Below w.heap.size w w0 := by rw [← hW0]; exact bthen (balloc _ _) (balloc _ _)
  have k0 : Has w0 w.heap.size 57 #[.int .i64 x.z, .slice x.AF x.F.length x.cF, .slice x.AB x.L.length x.cB] := by rw [← hW0]; exact has_alloc (has_new _ _ _) _
  have k1 : Has w0 (w.heap.size + 1) 57 #[.int .i64 0, .slice none 0 0, .slice none 0 0] := by rw [← hW0]; have := has_new (w.alloc (.cells #[.int .i64 x.z, .slice x.AF x.F.length x.cF, .slice x.AB x.L.length x.cB] 57)) 57 #[.int .i64 0, .slice none 0 0, .slice none 0 0]; simpa using this
  clear hW0
  have hz0 : w.heap.size + 2 ≤ w0.heap.size := has_lt k1
  have K0 := Lib.hid k0; have K1 := Lib.hid k1; clear k0 k1
  refine (copyS_any w0 B x lf lb (by omega) (HV.out.later hB b0)).mono ?_
  rintro e w1 ⟨A2, A3, n2, n3, rfl, ho2, ho3, hb1⟩
  have HO2 := Lib.hid ho2; have HO3 := Lib.hid ho3; clear ho2 ho3
  have hz1 := hb1.size
  go_wp2_with fail
  generalize hX : (w1.alloc (.cells #[.int .i64 x.z, .slice A2 x.F.length n2, .slice A3 x.L.length n3] 57)) = w2
  have bx : Below w1.heap.size w1 w2 := by rw [← hX]; exact balloc _ _
  have k3 : Has w2 w1.heap.size 57 #[.int .i64 x.z, .slice A2 x.F.length n2, .slice A3 x.L.length n3] := by rw [← hX]; exact has_new _ _ _
  clear hX
  have b2 := bthen hb1 bx
  have c2 := bthen b0 b2
  have hz2 := bx.size
  have K0' := Lib.hid (has_call K0.out b2); have K1' := Lib.hid (has_call K1.out b2); have K3 := Lib.hid k3
  have O2' := Lib.hid ((HO2.out.below bx).more hz0); have O3' := Lib.hid ((HO3.out.below bx).more hz0)
  clear k3 K0 K1 HO2 HO3
  go_loopw [9] (fun i wr => ∃ k : Nat, k ≤ x.L.length ∧ i = .int .i64 k ∧ fIdx (cov un) x.L 0 = fIdx (cov un) (x.L.drop k) k ∧ Below w2.heap.size w2 wr) (fun i _ => x.L.length - (intOf i).toNat)
  case atStart => exact ⟨0, Nat.zero_le _, rfl, by simp, Below.refl _ _⟩
  case round =>
    obtain ⟨k, hk, rfl, hno, hb⟩ := hrel
    have HN := Lib.hid hno; clear hno
    have ck := bthen c2 hb
    have hsz := hb.size
    have k0 := has_call K0'.out hb
    have k1 := has_call K1'.out hb
    have k3 := has_call K3.out hb
    have e0 := has_cell k0 0 rfl
    have e1 := has_cell k0 1 rfl
    have e2 := has_cell k0 2 rfl
    have r0 := has_cell k3 0 rfl
    have r1 := has_cell k3 1 rfl
    have r2 := has_cell k3 2 rfl
    have y0 := has_cell k1 0 rfl
    have y1 := has_cell k1 1 rfl
    have y2 := has_cell k1 2 rfl
    have f0 := has_free k1 0
    have f1 := has_free k1 1
    have f2 := has_free k1 2
    have hlw : w.heap.size < wr.heap.size := has_lt k0
    have hl1 : w1.heap.size < wr.heap.size := has_lt k3
    have hlr : w.heap.size + 1 < wr.heap.size := has_lt k1
    by_cases hlt : k < x.L.length
    · have HK0 := Lib.hid k0; have HK1 := Lib.hid k1; have HK3 := Lib.hid k3
      clear k0 k1 k3
      go_wp2_with fail
      clear e0 e1 e2 r0 r1 r2 y0 y1 y2 f0 f1 f2
      refine (colS_any wr B x (by omega) (HV.out.later hB ck)).mono ?_
      rintro e w4 ⟨q, rfl, hq, hb4⟩
      have HQ := Lib.hid hq; clear hq
      have c4 := bthen ck hb4
      have b4 := bthen hb hb4
      have hz4 := hb4.size
      have k0 := has_call HK0.out hb4
      have k1 := has_call HK1.out hb4
      have k3 := has_call HK3.out hb4
      have r0 := has_cell k3 0 rfl
      have r1 := has_cell k3 1 rfl
      have r2 := has_cell k3 2 rfl
      have y0 := has_cell k1 0 rfl
      have y1 := has_cell k1 1 rfl
      have y2 := has_cell k1 2 rfl
      have f0 := has_free k1 0
      have f1 := has_free k1 1
      have f2 := has_free k1 2
      cases q
      · have X1 := Lib.hid (set3 (u := .int .i64 x.z) (v := .slice A2 x.F.length n2) (x := .slice A3 x.L.length n3) k1)
        have FIN := Lib.hid (ans_finr (w.heap.size + 1) (w.heap.size + 2) c4 (by omega) (by omega) (O2'.out.below b4) (O3'.out.below b4) (.int .i64 x.z) (.slice A2 x.F.length n2) (.slice A3 x.L.length n3))
        clear k0 k1 k3
        go_wp2_with fail
        have g0 := has_cell X1.out 0 rfl
        have g1 := has_cell X1.out 1 rfl
        have g2 := has_cell X1.out 2 rfl
        refine bodyPost_ret (v := .tuple #[.agg #[.int .i64 x.z, .slice A2 x.F.length n2, .slice A3 x.L.length n3], .bool false]) (by simp [results, Try.results83, go_sem, g0, g1, g2]) rfl ⟨x.z, x.F, x.L, false, A2, A3, n2, n3, rfl, jam_no (fun j y h => ?_), lf, lb, FIN.out⟩
        have := HQ.out.2 h.1
        simp at this
      · have hok : ColOk x.z x.F x.L := HQ.out.1 (by simp)
        obtain ⟨b, off, y, hA, hbB, hy, hc0, hc1, hc2, hc3⟩ := (HV.out.later hB c4).b.at_ hlt
        have hbd := box_bd hok y (List.mem_of_getElem? hy)
        have hst := fIdx_drop (cov un) x.L k y hy
        have e2 := has_cell k0 2 rfl
        rw [hA] at e2
        have hbw : b < w4.heap.size := by omega
        have hlw4 : w.heap.size < w4.heap.size := has_lt k0
        have hl14 : w1.heap.size < w4.heap.size := has_lt k3
        obtain ⟨y0', y1', y2', y3'⟩ := y
        dsimp only at hc0 hc1 hc2 hc3 hbd
        obtain ⟨hb0, hb1', hb2', hb3'⟩ := hbd
        have hcov : cov un ⟨y0', y1', y2', y3'⟩ = inB un y0' (y0' + y1' - 1) := rfl
        have HY := Lib.hid hy; have HST := Lib.hid hst; have HOK := Lib.hid hok; clear hy hst hok hA
        have HK1 := Lib.hid k1; have HK3 := Lib.hid k3; clear k0 k1 k3
        have O3 := Lib.hid (O3'.out.below b4); have O2 := Lib.hid (O2'.out.below b4)
        cases hi : inB un y0' (y0' + y1' - 1)
        · have hq : ∀ W, Calls Try.prog 34 #[.int .i64 un, .int .i64 y0', .int .i64 (y0' + y1' - 1)] W fun e w' => e = .returned (.bool false) ∧ w' = W := fun W => by rw [← hi]; exact in_any W un y0' (y0' + y1' - 1)
          rw [hi] at hcov
          have hst := HST.out
          rw [if_neg (by rw [hcov]; simp)] at hst
          have HI := Lib.hid hq; have HST2 := Lib.hid hst; clear hi hcov hq hst
          have wk1 : IntKind.i64.wrap (y0' + y1') = y0' + y1' := IntWalk.i64_in _ (by omega)
          have wk2 : IntKind.i64.wrap (y0' + y1' - 1) = y0' + y1' - 1 := IntWalk.i64_in _ (by omega)
          go_wp2_with fail
          go_big_quiet (exact Calls.quiet_of_same (HI.out _))
          clear wk1 wk2
          go_wp2
          go_roundw
          case rel => exact ⟨k + 1, by omega, by go_num, by rw [HN.out, HST2.out], below_drewN b4 _⟩
          case measure => simp [intOf]; omega
        · have hq : ∀ W, Calls Try.prog 34 #[.int .i64 un, .int .i64 y0', .int .i64 (y0' + y1' - 1)] W fun e w' => e = .returned (.bool true) ∧ w' = W := fun W => by rw [← hi]; exact in_any W un y0' (y0' + y1' - 1)
          rw [hi] at hcov
          have hst := HST.out
          rw [if_pos hcov] at hst
          have HI := Lib.hid hq; have HST2 := Lib.hid hst; clear hi hcov hq hst
          have wk1 : IntKind.i64.wrap (y0' + y1') = y0' + y1' := IntWalk.i64_in _ (by omega)
          have wk2 : IntKind.i64.wrap (y0' + y1' - 1) = y0' + y1' - 1 := IntWalk.i64_in _ (by omega)
          go_wp2_with fail
          go_big_quiet (exact Calls.quiet_of_same (HI.out _))
          clear wk1 wk2
          obtain ⟨g, cur, hA3, hgb, hhg, ⟨u, hu⟩, hfr, hor⟩ := or_set (j := k) (i := 3) (x := ⟨y0', y1', y2', y3'⟩) (y := ⟨y0', y1', y2', jm⟩) (v := .bool jm) O3.out HY.out (by omega) rfl
          subst hA3
          have hn1 : g ≠ w1.heap.size := fun eq => by
            subst eq
            have := hhg.symm.trans HK3.out
            injection this with this; injection this with _ this _
            exact absurd this (by decide)
          have k3' := has_far HK3.out (p := ⟨g, k * 4 + 3, none⟩) (fun e => hn1 e.symm) (.bool jm)
          have k1' := has_far HK1.out (p := ⟨g, k * 4 + 3, none⟩) (by show w.heap.size + 1 ≠ g; omega) (.bool jm)
          have fin' := ans_finr (w.heap.size + 1) (w.heap.size + 2) (c4.setCell (p := ⟨g, k * 4 + 3, none⟩) (by show w.heap.size ≤ g; omega) (.bool jm)) (by omega) (by omega) (O2.out.set_other hhg (by decide) _ _) hor (.int .i64 x.z) (.slice A2 x.F.length n2) (.slice (some ⟨g, 0, none⟩) x.L.length n3)
          have x1' := set3 (u := .int .i64 x.z) (v := .slice A2 x.F.length n2) (x := .slice (some ⟨g, 0, none⟩) x.L.length n3) k1'
          have FIN' := Lib.hid fin'; have X1' := Lib.hid x1'; clear fin' x1' hor
          have hn2 : ¬ g = w.heap.size + 1 := by omega
          have hn3 : ¬ w.heap.size + 1 = g := by omega
          have hn4 : ¬ w1.heap.size = g := fun e => hn1 e.symm
          have hn5 : ¬ g = w1.heap.size := hn1
          clear hn1 k1'
          have r0 := has_cell k3' 0 rfl
          have r1 := has_cell k3' 1 rfl
          have r2 := has_cell k3' 2 rfl
          clear k3'
          go_wp2_with fail
          have hx9 := fun n : Nat => set3 (u := .int .i64 x.z) (v := .slice A2 x.F.length n2) (x := .slice (some ⟨g, 0, none⟩) x.L.length n3) (has_far (has_drewN HK1.out n) (p := ⟨g, k * 4 + 3, none⟩) hn3 (.bool jm))
          have g0 := fun n : Nat => has_cell (hx9 n) 0 rfl
          have g1 := fun n : Nat => has_cell (hx9 n) 1 rfl
          have g2 := fun n : Nat => has_cell (hx9 n) 2 rfl
          refine bodyPost_ret (v := .tuple #[.agg #[.int .i64 x.z, .slice A2 x.F.length n2, .slice (some ⟨g, 0, none⟩) x.L.length n3], .bool true]) (by simp [results, Try.results83, go_sem, g0, g1, g2]) rfl ⟨x.z, x.F, x.L.set k ⟨y0', y1', y2', jm⟩, true, A2, some ⟨g, 0, none⟩, n2, n3, by rw [List.length_set], jam_yes HOK.out (by rw [HN.out, HST2.out]) HY.out, lf, by rw [List.length_set]; exact lb, FIN'.out.1, FIN'.out.2.1, below_drewN FIN'.out.2.2 _⟩
    · have X1 := Lib.hid (set3 (u := .int .i64 x.z) (v := .slice A2 x.F.length n2) (x := .slice A3 x.L.length n3) k1)
      have FIN := Lib.hid (ans_finr (w.heap.size + 1) (w.heap.size + 2) ck (by omega) (by omega) (O2'.out.below hb) (O3'.out.below hb) (.int .i64 x.z) (.slice A2 x.F.length n2) (.slice A3 x.L.length n3))
      clear k0 k1 k3
      go_wp2_with fail
      have g0 := has_cell X1.out 0 rfl
      have g1 := has_cell X1.out 1 rfl
      have g2 := has_cell X1.out 2 rfl
      refine bodyPost_ret (v := .tuple #[.agg #[.int .i64 x.z, .slice A2 x.F.length n2, .slice A3 x.L.length n3], .bool false]) (by simp [results, Try.results83, go_sem, g0, g1, g2]) rfl ⟨x.z, x.F, x.L, false, A2, A3, n2, n3, rfl, jam_no (fun j y h => ?_), lf, lb, FIN.out⟩
      have hkl : k = x.L.length := by omega
      have h1 := HN.out
      rw [hkl, List.drop_length, h.2.1] at h1
      have h1' : ((j : Nat) : Int) = -1 := h1
      omega

end Go.Proofs.Ythfpjfekemelaaa
