/- The drawing of a week. -/
import Derived.Test.YtfkhhefphbhppaaDrawW
namespace Go.Proofs.Ytfkhhefphbhppaa
open Go.RowKit
set_option linter.unusedVariables false

def WeekDrawn (w : World) (B g : Nat) (e : Ending) (w' : World) : Prop :=
  ∃ (A A' : Option Addr) (n n' : Nat) (o c : List (Int × Int)), e = .returned (.agg #[.slice A o.length n, .slice A' c.length n']) ∧ weekB o c = true ∧ o.length ≤ 20 ∧ c.length ≤ 20 ∧ SL w' w'.heap.size A o ∧ SL w' w'.heap.size A' c ∧ (∀ a, A = some a → w.heap.size ≤ a.block) ∧ (∀ a, A' = some a → w.heap.size ≤ a.block) ∧ (∃ b1, w.heap.size < b1 ∧ w'.ownsRow b1 57 2 (.slice A o.length n) o.length (cellsL o)) ∧ (∃ b2, w.heap.size < b2 ∧ b2 ≤ w'.heap.size ∧ (∀ k, (Value.slice A o.length n).ownBlock = some k → k < b2) ∧ w'.ownsRow b2 57 2 (.slice A' c.length n') c.length (cellsL c)) ∧ Cur w' B g ∧ Only w g w'
theorem week_of (o c : List (Int × Int)) (h1 : spansB o 168 = true) (h2 : spansB c 20000 = true) : weekB o c = true := by rw [week_yes _ _ h1]; exact h2
theorem own_other {w : World} {base b : Nat} {e : TypeId} {size n : Nat} {v : Value} {xs : List Value} (h : w.ownsRow base e size v n xs) (hne : v.ownBlock ≠ some b) (i : Nat) (u : Value) : (w.setCell ⟨b, i, none⟩ u).ownsRow base e size v n xs :=
  own_only (g := b) h (only_set (only_refl _ _) i u) hne
theorem cur_other {w : World} {B g b : Nat} (h : Cur w B g) (h1 : B ≤ b) (h2 : b ≠ g) (i : Nat) (u : Value) : Cur (w.setCell ⟨b, i, none⟩ u) B g :=
  h.only fun k hk hk' => Below.heap_setCell w ⟨b, i, none⟩ u k (by simp; omega)
theorem only_far {a w : World} {g : Nat} (h : Only a g w) {b : Nat} (hb : a.heap.size ≤ b) (i : Nat) (u : Value) : Only a g (w.setCell ⟨b, i, none⟩ u) :=
  ⟨h.os, h.tape, h.output, by rw [size_set]; exact h.size, fun k hk hne => (Below.heap_setCell w ⟨b, i, none⟩ u k (by simp; omega)).trans (h.block k hk hne)⟩

/-- the week is handed back: what its cells are, and that the rows of its spans are as they were -/
theorem week_close {w W : World} {B g r : Nat} {A A' : Option Addr} {n n' base base' : Nat} {o c : List (Int × Int)} (hr : r = w.heap.size)
    (hb : w.heap.size + 1 ≤ base) (hb' : w.heap.size + 1 ≤ base')
    (h1 : W.ownsRow base 57 2 (.slice A o.length n) o.length (cellsL o)) (h2 : W.ownsRow base' 57 2 (.slice A' c.length n') c.length (cellsL c))
    (hd : ∀ k, (Value.slice A o.length n).ownBlock = some k → k < base') (hbW : base' ≤ W.heap.size)
    (hw : weekB o c = true) (hlo : o.length ≤ 20) (hlc : c.length ≤ 20) (hC : Cur W B g) (hB : B ≤ w.heap.size) (hg : g < w.heap.size) (ho : Only w g W) {e : Ending} (he : e = .returned (.agg #[.slice A o.length n, .slice A' c.length n'])) :
    WeekDrawn w B g e ((W.setCell ⟨r, 0, none⟩ (.slice A o.length n)).setCell ⟨r, 1, none⟩ (.slice A' c.length n')) := by
  subst hr
  have n1 : (Value.slice A o.length n).ownBlock ≠ some w.heap.size := fun e => by have := (h1.lt _ e).1; omega
  have n2 : (Value.slice A' c.length n').ownBlock ≠ some w.heap.size := fun e => by have := (h2.lt _ e).1; omega
  have r1 := own_other (own_other h1 n1 0 (.slice A o.length n)) n1 1 (.slice A' c.length n')
  have r2 := own_other (own_other h2 n2 0 (.slice A o.length n)) n2 1 (.slice A' c.length n')
  obtain ⟨A1, c1, e1, S1, N1⟩ := sl_own r1
  obtain ⟨A2, c2, e2, S2, N2⟩ := sl_own r2
  injection e1 with e1 _ _
  injection e2 with e2 _ _
  subst e1 e2
  exact ⟨A, A', n, n', o, c, he, hw, hlo, hlc, S1, S2, fun a ha => by have := N1 a ha; omega, fun a ha => by have := N2 a ha; omega, ⟨base, by omega, r1⟩, ⟨base', by omega, by simpa [size_set] using hbW, hd, r2⟩, cur_other (cur_other hC hB (by omega) _ _) hB (by omega) _ _, only_far (only_far ho (Nat.le_refl _) _ _) (Nat.le_refl _) _ _⟩
theorem res_cells {w : World} {r : Nat} {x y : Value} (h : Has w r 26 #[x, y]) (u v : Value) : ((w.setCell ⟨r, 0, none⟩ u).setCell ⟨r, 1, none⟩ v).cell? ⟨r, 0, none⟩ = some u ∧ ((w.setCell ⟨r, 0, none⟩ u).setCell ⟨r, 1, none⟩ v).cell? ⟨r, 1, none⟩ = some v := by
  have k : Has ((w.setCell ⟨r, 0, none⟩ u).setCell ⟨r, 1, none⟩ v) r 26 #[u, v] := by simpa using has_set (has_set h 0 u) 1 v
  exact ⟨has_cell k 0 rfl, has_cell k 1 rfl⟩

set_option maxRecDepth 100000 in
set_option maxHeartbeats 2000000 in
theorem week_any (w : World) (B g : Nat) (hC : Cur w B g) :
    Calls Try.prog 26 #[.pointer (some ⟨g, 0, none⟩)] w (WeekDrawn w B g) := by
  have hlt0 := hC.lt
  obtain ⟨hB0, hg0⟩ := hlt0
  have HC := Lib.hid hC; clear hC
  go_enter Try.func26, Try.ntmps26
  go_wp2_with fail
  generalize hW1 : w.alloc (.cells #[.slice none 0 0, .slice none 0 0] 26) = w1
  have z1 : w1.heap.size = w.heap.size + 1 := by rw [← hW1]; simp
  have k1 : Has w1 w.heap.size 26 #[.slice none 0 0, .slice none 0 0] := by rw [← hW1]; exact has_new _ _ _
  have c1 : Cur w1 B g := by rw [← hW1]; exact HC.out.alloc hB0 _
  have o1 : Only w g w1 := by rw [← hW1]; exact only_new (only_refl _ _) _
  clear hW1
  have Z1 := Lib.hid z1; clear z1
  refine (spansDraw_any w1 B g 168 40 (by omega) (by omega) (by omega) (by omega) c1).mono ?_
  rintro e w2 ⟨v, o, rfl, hso, hlo, hown, c2, o2⟩
  obtain ⟨A, n, hv, _, _⟩ := sl_own hown
  subst hv
  have hz2 := o2.size
  have k2 := has_only k1 o2 (by omega)
  have HR2 := Lib.hid k2; clear k2 k1 c1
  have hc2z := c2.lt
  have HC2 := Lib.hid c2; clear c2
  have HO2 := Lib.hid (only_trans o1 o2); clear o1 o2
  have HOWN := Lib.hid hown; clear hown
  have HSO := Lib.hid hso; clear hso
  go_wp2_with fail
  generalize hW3 : w2.alloc (.cells #[.slice A o.length n, .slice none 0 0] 26) = w3
  have z3 : w3.heap.size = w2.heap.size + 1 := by rw [← hW3]; simp
  have kr3 : Has w3 w.heap.size 26 #[.slice none 0 0, .slice none 0 0] := by rw [← hW3]; exact has_alloc HR2.out _
  have kw3 : Has w3 w2.heap.size 26 #[.slice A o.length n, .slice none 0 0] := by rw [← hW3]; exact has_new _ _ _
  have c3 : Cur w3 B g := by rw [← hW3]; exact HC2.out.alloc hc2z.1 _
  have o3 : Only w g w3 := by rw [← hW3]; exact only_new HO2.out _
  have r3 : w3.ownsRow w1.heap.size 57 2 (.slice A o.length n) o.length (cellsL o) := by rw [← hW3]; exact HOWN.out.alloc _
  clear hW3
  have Z3 := Lib.hid z3; clear z3
  refine (below_any w3 B g 6 (by omega) (by omega) c3).mono ?_
  rintro e w4 ⟨z, hzz0, hzz1, rfl, c4, o4⟩
  have hz4 := o4.size
  have hr4 : (Value.slice A o.length n).ownBlock ≠ some g := fun e => by have := (r3.lt _ e).1; have := Z1.out; omega
  have hr4w : (Value.slice A o.length n).ownBlock ≠ some w2.heap.size := fun e => by have := (HOWN.out.lt _ e).2; omega
  have kr4 := has_only kr3 o4 (by omega)
  have kw4 := has_only kw3 o4 (by have := Z1.out; omega)
  have HR4 := Lib.hid kr4; have HW4 := Lib.hid kw4; clear kr4 kw4 kr3 kw3
  have HROW := Lib.hid (own_only r3 o4 hr4); clear r3
  have hc4z := c4.lt
  have HC4 := Lib.hid c4; clear c4 c3
  have HO4 := Lib.hid (only_trans o3 o4); clear o3 o4
  have HB : w.heap.size + 1 ≤ w1.heap.size := by have := Z1.out; omega
  have hz34 : w2.heap.size < w4.heap.size := by have := Z3.out; omega
  by_cases h0 : z = 0
  · subst h0
    have e1 := has_cell HW4.out 1 rfl
    have ew0 := has_cell HW4.out 0 rfl
    have fw := has_free HW4.out 0
    have kr5 : Has ((w4.setCell ⟨w2.heap.size, 0, none⟩ (.slice (some ⟨w4.heap.size, 0, none⟩) 1 1)).alloc (.cells #[.int .i64 0, .int .i64 168] 57)) w.heap.size 26 #[.slice none 0 0, .slice none 0 0] := has_alloc (has_far HR4.out (by simp; omega) _) _
    have f0 := has_cell kr5 0 rfl
    have f1 := has_cell kr5 1 rfl
    have d0 := has_free kr5 0
    have d1 := has_free kr5 1
    have KR5 := Lib.hid kr5; clear kr5
    go_wp2_with fail
    clear e1 ew0 fw f0 f1 d0 d1
    obtain ⟨g0, g1⟩ := res_cells KR5.out (.slice (some ⟨w4.heap.size, 0, none⟩) 1 1) (.slice none 0 0)
    refine bodyPost_ret (v := .agg #[(.slice (some ⟨w4.heap.size, 0, none⟩) 1 1), .slice none 0 0]) (by simp [results, Try.results26, go_sem, g0, g1]) rfl ?_
    have rl : ((w4.setCell ⟨w2.heap.size, 0, none⟩ (.slice (some ⟨w4.heap.size, 0, none⟩) 1 1)).alloc (.cells #[.int .i64 0, .int .i64 168] 57)).ownsRow (w.heap.size + 1) 57 2 (.slice (some ⟨w4.heap.size, 0, none⟩) 1 1) 1 (cellsL [(0, 168)]) := by
      have h := World.ownsRow_lit (base := w.heap.size + 1) (e := 57) (size := 2) (w4.setCell ⟨w2.heap.size, 0, none⟩ (.slice (some ⟨w4.heap.size, 0, none⟩) 1 1)) #[.int .i64 0, .int .i64 168] 1 (by rw [size_set]; omega) (by unfold maxLen; omega) rfl
      rw [size_set] at h
      exact h
    have n2 : w2.heap.size ≠ g := by omega
    exact week_close (o := [(0, 168)]) (c := []) rfl (Nat.le_refl _) (by simp [size_set]; omega) rl (World.ownsRow_nil _ _ _ _) (fun k e => (rl.lt _ e).2) (Nat.le_refl _) (week_of _ _ (by decide) rfl) (by simp) (by simp) ((cur_other HC4.out (by omega) n2 _ _).alloc (by rw [size_set]; omega) _) hB0 hg0 (only_new (only_far HO4.out (by omega) _ _) _) rfl
  have q0 : (z == 0) = false := by simp [h0]
  by_cases h1 : z = 1
  · subst h1
    go_wp2_with fail
    refine (spansDraw_any w4 B g 20000 150 (by omega) (by omega) (by omega) (by omega) HC4.out).mono ?_
    rintro e w5 ⟨v, c, rfl, hsc, hlc, hown5, c5, o5⟩
    obtain ⟨A2, m, hv, _, _⟩ := sl_own hown5
    subst hv
    have hz5 := o5.size
    have kr5 := has_only HR4.out o5 (by omega)
    have kw5 := has_only HW4.out o5 (by omega)
    have HROW5 := Lib.hid (own_only HROW.out o5 hr4)
    have HOWN5 := Lib.hid hown5; clear hown5
    have HC5 := Lib.hid c5; clear c5
    have HO5 := Lib.hid (only_trans HO4.out o5); clear o5
    have HSC := Lib.hid hsc; clear hsc
    have e1 := has_cell kw5 1 rfl
    have ew0 := has_cell kw5 0 rfl
    have fw := has_free kw5 1
    have kr6 : Has (w5.setCell ⟨w2.heap.size, 1, none⟩ (.slice A2 c.length m)) w.heap.size 26 #[.slice none 0 0, .slice none 0 0] := has_far kr5 (by simp; omega) _
    have f0 := has_cell kr6 0 rfl
    have f1 := has_cell kr6 1 rfl
    have d0 := has_free kr6 0
    have d1 := has_free kr6 1
    have KR5 := Lib.hid kr6; clear kr6 kr5 kw5
    go_wp2_with fail
    clear e1 ew0 fw f0 f1 d0 d1
    obtain ⟨g0, g1⟩ := res_cells KR5.out (.slice A o.length n) (.slice A2 c.length m)
    refine bodyPost_ret (v := .agg #[.slice A o.length n, .slice A2 c.length m]) (by simp [results, Try.results26, go_sem, g0, g1]) rfl ?_
    have n2 : w2.heap.size ≠ g := by omega
    have n5 : (Value.slice A2 c.length m).ownBlock ≠ some w2.heap.size := fun e => by have := (HOWN5.out.lt _ e).1; omega
    exact week_close rfl HB (by omega) (own_other HROW5.out hr4w _ _) (own_other HOWN5.out n5 _ _) (fun k e1 => (HROW.out.lt _ e1).2) (by simp [size_set]; omega) (week_of _ _ HSO.out HSC.out) (by omega) (by omega) (cur_other HC5.out (by omega) n2 _ _) hB0 hg0 (only_far HO5.out (by omega) _ _) rfl
  have q1 : (z == 1) = false := by simp [h1]
  by_cases h2 : z = 2
  · subst h2
    go_wp2_with fail
    refine (spansDraw_any w4 B g 20000 150 (by omega) (by omega) (by omega) (by omega) HC4.out).mono ?_
    rintro e w5 ⟨v, c, rfl, hsc, hlc, hown5, c5, o5⟩
    obtain ⟨A2, m, hv, _, _⟩ := sl_own hown5
    subst hv
    have hz5 := o5.size
    have kr5 := has_only HR4.out o5 (by omega)
    have kw5 := has_only HW4.out o5 (by omega)
    have HROW5 := Lib.hid (own_only HROW.out o5 hr4)
    have HOWN5 := Lib.hid hown5; clear hown5
    have HC5 := Lib.hid c5; clear c5
    have HO5 := Lib.hid (only_trans HO4.out o5); clear o5
    have HSC := Lib.hid hsc; clear hsc
    have e1 := has_cell kw5 1 rfl
    have ew0 := has_cell kw5 0 rfl
    have fw := has_free kw5 1
    have kr6 : Has (w5.setCell ⟨w2.heap.size, 1, none⟩ (.slice A2 c.length m)) w.heap.size 26 #[.slice none 0 0, .slice none 0 0] := has_far kr5 (by simp; omega) _
    have f0 := has_cell kr6 0 rfl
    have f1 := has_cell kr6 1 rfl
    have d0 := has_free kr6 0
    have d1 := has_free kr6 1
    have KR5 := Lib.hid kr6; clear kr6 kr5 kw5
    go_wp2_with fail
    clear e1 ew0 fw f0 f1 d0 d1
    obtain ⟨g0, g1⟩ := res_cells KR5.out (.slice A o.length n) (.slice A2 c.length m)
    refine bodyPost_ret (v := .agg #[.slice A o.length n, .slice A2 c.length m]) (by simp [results, Try.results26, go_sem, g0, g1]) rfl ?_
    have n2 : w2.heap.size ≠ g := by omega
    have n5 : (Value.slice A2 c.length m).ownBlock ≠ some w2.heap.size := fun e => by have := (HOWN5.out.lt _ e).1; omega
    exact week_close rfl HB (by omega) (own_other HROW5.out hr4w _ _) (own_other HOWN5.out n5 _ _) (fun k e1 => (HROW.out.lt _ e1).2) (by simp [size_set]; omega) (week_of _ _ HSO.out HSC.out) (by omega) (by omega) (cur_other HC5.out (by omega) n2 _ _) hB0 hg0 (only_far HO5.out (by omega) _ _) rfl
  have q2 : (z == 2) = false := by simp [h2]
  by_cases h3 : z = 3
  · subst h3
    have e1 := has_cell HW4.out 1 rfl
    have ew0 := has_cell HW4.out 0 rfl
    have fw := has_free HW4.out 0
    have kr5 : Has ((w4.setCell ⟨w2.heap.size, 0, none⟩ (.slice (some ⟨w4.heap.size, 0, none⟩) 3 3)).alloc (.cells #[.int .i64 8, .int .i64 18, .int .i64 32, .int .i64 42, .int .i64 56, .int .i64 66] 57)) w.heap.size 26 #[.slice none 0 0, .slice none 0 0] := has_alloc (has_far HR4.out (by simp; omega) _) _
    have f0 := has_cell kr5 0 rfl
    have f1 := has_cell kr5 1 rfl
    have d0 := has_free kr5 0
    have d1 := has_free kr5 1
    have KR5 := Lib.hid kr5; clear kr5
    go_wp2_with fail
    clear e1 ew0 fw f0 f1 d0 d1
    obtain ⟨g0, g1⟩ := res_cells KR5.out (.slice (some ⟨w4.heap.size, 0, none⟩) 3 3) (.slice none 0 0)
    refine bodyPost_ret (v := .agg #[(.slice (some ⟨w4.heap.size, 0, none⟩) 3 3), .slice none 0 0]) (by simp [results, Try.results26, go_sem, g0, g1]) rfl ?_
    have rl : ((w4.setCell ⟨w2.heap.size, 0, none⟩ (.slice (some ⟨w4.heap.size, 0, none⟩) 3 3)).alloc (.cells #[.int .i64 8, .int .i64 18, .int .i64 32, .int .i64 42, .int .i64 56, .int .i64 66] 57)).ownsRow (w.heap.size + 1) 57 2 (.slice (some ⟨w4.heap.size, 0, none⟩) 3 3) 3 (cellsL [(8, 18), (32, 42), (56, 66)]) := by
      have h := World.ownsRow_lit (base := w.heap.size + 1) (e := 57) (size := 2) (w4.setCell ⟨w2.heap.size, 0, none⟩ (.slice (some ⟨w4.heap.size, 0, none⟩) 3 3)) #[.int .i64 8, .int .i64 18, .int .i64 32, .int .i64 42, .int .i64 56, .int .i64 66] 3 (by rw [size_set]; omega) (by unfold maxLen; omega) rfl
      rw [size_set] at h
      exact h
    have n2 : w2.heap.size ≠ g := by omega
    exact week_close (o := [(8, 18), (32, 42), (56, 66)]) (c := []) rfl (Nat.le_refl _) (by simp [size_set]; omega) rl (World.ownsRow_nil _ _ _ _) (fun k e => (rl.lt _ e).2) (Nat.le_refl _) (week_of _ _ (by decide) rfl) (by simp) (by simp) ((cur_other HC4.out (by omega) n2 _ _).alloc (by rw [size_set]; omega) _) hB0 hg0 (only_new (only_far HO4.out (by omega) _ _) _) rfl
  have q3 : (z == 3) = false := by simp [h3]
  have e0 := has_cell HW4.out 0 rfl
  have e1 := has_cell HW4.out 1 rfl
  have f0 := has_cell HR4.out 0 rfl
  have f1 := has_cell HR4.out 1 rfl
  have d0 := has_free HR4.out 0
  have d1 := has_free HR4.out 1
  go_wp2_with fail
  clear e0 e1 f0 f1 d0 d1
  obtain ⟨g0, g1⟩ := res_cells HR4.out (.slice A o.length n) (.slice none 0 0)
  refine bodyPost_ret (v := .agg #[.slice A o.length n, .slice none 0 0]) (by simp [results, Try.results26, go_sem, g0, g1]) rfl ?_
  exact week_close (c := []) rfl HB (by omega) HROW.out (World.ownsRow_nil _ _ _ _) (fun k e => (HROW.out.lt _ e).2) (Nat.le_refl _) (week_of _ _ HSO.out rfl) (by omega) (by simp) HC4.out hB0 hg0 HO4.out rfl
end Go.Proofs.Ytfkhhefphbhppaa
