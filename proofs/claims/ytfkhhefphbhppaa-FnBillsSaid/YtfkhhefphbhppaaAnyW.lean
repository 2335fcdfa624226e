/- Chapter 1: the drawing of a week that may be anything (gen_anyw.py). -/
import Derived.Test.YtfkhhefphbhppaaFeeW
import Derived.Test.YtfkhhefphbhppaaBilS
import Derived.Test.YtfkhhefphbhppaaAny
import Derived.Deep.DeepMust
import Derived.Laws.OwnMore
import Derived.Deep.Onto
namespace Go.Proofs.Ytfkhhefphbhppaa
open Go.RowKit
set_option linter.unusedVariables false
theorem cellsL_set : ∀ (l : List (Int × Int)) (j : Nat) (v : Int), ∃ l' : List (Int × Int), l'.length = l.length ∧ (cellsL l).set j (.int .i64 v) = cellsL l'
  | [], j, v => ⟨[], rfl, by simp [cellsL]⟩
  | a :: r, 0, v => ⟨(v, a.2) :: r, rfl, rfl⟩
  | a :: r, 1, v => ⟨(a.1, v) :: r, rfl, rfl⟩
  | a :: r, j + 2, v => by
    obtain ⟨l', h1, h2⟩ := cellsL_set r j v
    refine ⟨a :: l', by simp [h1], ?_⟩
    show Value.int .i64 a.1 :: Value.int .i64 a.2 :: (cellsL r).set j (.int .i64 v) = _
    rw [h2]; rfl
theorem src_has6 {w : World} {gs : Nat} {e : TypeId} {cs : Array Value} (h : Has w gs e cs) (size : Nat) (hs : cs.size = size) (h1 : ∀ u ∈ cs.toList, u.oneCell' = true) : Src w (some ⟨gs, 0, none⟩) 1 size cs.toList where
  len := by simp [hs]
  one := h1
  nil := fun e => by cases e
  at_ := fun ad e j u hu => by
    injection e with e; subst e
    rw [addr6, Nat.zero_add]
    exact has_cell h j (by simpa using hu)
theorem row_not {w : World} {base n gz : Nat} {v : Value} {xs : List Value} {cs : Array Value} (h : w.ownsRow base 57 2 v n xs) (hz : Has w gz 26 cs) : v.ownBlock ≠ some gz := by
  intro e
  rcases h.2 with ⟨rfl, _⟩ | ⟨g, cap, cur, rfl, _, hh, _⟩
  · simp [Value.ownBlock] at e
  · have : g = gz := by simpa [Value.ownBlock] using e
    subst this
    have := hh.symm.trans hz
    injection this with this; injection this with _ this _
    exact absurd this (by decide)
theorem sp_more {w : World} {base : Nat} {v : Value} {l : List (Int × Int)} {x y : Int} (h : w.ownsRow base 57 2 v (l.length + 1) (cellsL l ++ [.int .i64 x, .int .i64 y])) : w.ownsRow base 57 2 v (l ++ [(x, y)]).length (cellsL (l ++ [(x, y)])) := by
  have e : cellsL (l ++ [(x, y)]) = cellsL l ++ [.int .i64 x, .int .i64 y] := by simp [cellsL]
  rw [e, List.length_append]; exact h
def lenC (W : World) (z : Nat) : Nat := match W.cell? ⟨z, 1, none⟩ with
  | some (.slice _ n _) => n
  | _ => 0
theorem lenC_is {W : World} {z n c : Nat} {A : Option Addr} {x : Value} (h : Has W z 26 #[x, .slice A n c]) : lenC W z = n := by
  unfold lenC; rw [has_cell h 1 rfl]; rfl
/-- a week that may be anything -/
def AnyWeek (w : World) (B g : Nat) (e : Ending) (w' : World) : Prop :=
  ∃ (A A' : Option Addr) (n n' : Nat) (o c : List (Int × Int)), e = .returned (.agg #[.slice A o.length n, .slice A' c.length n']) ∧ o.length ≤ 20 ∧ c.length ≤ 21 ∧ (∃ b1, w.heap.size < b1 ∧ w'.ownsRow b1 57 2 (.slice A o.length n) o.length (cellsL o)) ∧ (∃ b2, w.heap.size < b2 ∧ w'.ownsRow b2 57 2 (.slice A' c.length n') c.length (cellsL c)) ∧ Cur w' B g ∧ Only w g w'
/-- the week is handed back -/
theorem any_close {w W : World} {B g r : Nat} {A A' : Option Addr} {n n' base base' : Nat} {o c : List (Int × Int)} (hr : r = w.heap.size)
    (hb : w.heap.size + 1 ≤ base) (hb' : w.heap.size + 1 ≤ base')
    (h1 : W.ownsRow base 57 2 (.slice A o.length n) o.length (cellsL o)) (h2 : W.ownsRow base' 57 2 (.slice A' c.length n') c.length (cellsL c))
    (hlo : o.length ≤ 20) (hlc : c.length ≤ 21) (hC : Cur W B g) (hB : B ≤ w.heap.size) (hg : g < w.heap.size) (ho : Only w g W) {e : Ending} (he : e = .returned (.agg #[.slice A o.length n, .slice A' c.length n'])) :
    AnyWeek w B g e ((W.setCell ⟨r, 0, none⟩ (.slice A o.length n)).setCell ⟨r, 1, none⟩ (.slice A' c.length n')) := by
  subst hr
  have n1 : (Value.slice A o.length n).ownBlock ≠ some w.heap.size := fun e => by have := (h1.lt _ e).1; omega
  have n2 : (Value.slice A' c.length n').ownBlock ≠ some w.heap.size := fun e => by have := (h2.lt _ e).1; omega
  have r1 := own_other (own_other h1 n1 0 (.slice A o.length n)) n1 1 (.slice A' c.length n')
  have r2 := own_other (own_other h2 n2 0 (.slice A o.length n)) n2 1 (.slice A' c.length n')
  exact ⟨A, A', n, n', o, c, he, hlo, hlc, ⟨base, by omega, r1⟩, ⟨base', by omega, r2⟩, cur_other (cur_other hC hB (by omega) _ _) hB (by omega) _ _, only_far (only_far ho (Nat.le_refl _) _ _) (Nat.le_refl _) _ _⟩
theorem any_alloc {w W : World} {B g : Nat} {e : Ending} (h : AnyWeek w B g e W) (ob : Obj) : AnyWeek w B g e (W.alloc ob) := by
  obtain ⟨A, A', n, n', o, c, he, hlo, hlc, ⟨b1, h1, r1⟩, ⟨b2, h2, r2⟩, hC, hO⟩ := h
  have hb := balloc W ob
  exact ⟨A, A', n, n', o, c, he, hlo, hlc, ⟨b1, h1, r1.alloc ob⟩, ⟨b2, h2, r2.alloc ob⟩, hC.bel hb, only_trans hO (only_bel hb)⟩
theorem res_alloc {w : World} {r : Nat} {x y : Value} (h : Has w r 26 #[x, y]) (u v : Value) (ob : Obj) : (((w.setCell ⟨r, 0, none⟩ u).setCell ⟨r, 1, none⟩ v).alloc ob).cell? ⟨r, 0, none⟩ = some u ∧ (((w.setCell ⟨r, 0, none⟩ u).setCell ⟨r, 1, none⟩ v).alloc ob).cell? ⟨r, 1, none⟩ = some v := by
  have k : Has ((w.setCell ⟨r, 0, none⟩ u).setCell ⟨r, 1, none⟩ v) r 26 #[u, v] := by simpa using has_set (has_set h 0 u) 1 v
  have k2 := has_call k (balloc _ ob)
  exact ⟨has_cell k2 0 rfl, has_cell k2 1 rfl⟩
set_option maxRecDepth 100000 in
set_option maxHeartbeats 16000000 in
theorem anyWeek_any (w : World) (B g : Nat) (hC : Cur w B g) : Calls Try.prog 12 #[.pointer (some ⟨g, 0, none⟩)] w (AnyWeek w B g) := by
  have hlt := hC.lt; obtain ⟨hB, hg⟩ := hlt
  have HC := Lib.hid hC; clear hC
  have HO := Lib.hid (only_refl w g)
  have hsw := HO.out.size
  go_enter Try.func12, Try.ntmps12
  go_wp2_with fail
  generalize hX : (w.alloc (.cells #[.slice none 0 0, .slice none 0 0] 26)) = w1
  have hb : Below w.heap.size w w1 := by rw [← hX]; exact balloc _ _
  have hk : Has w1 w.heap.size 26 #[.slice none 0 0, .slice none 0 0] := by rw [← hX]; exact has_new _ _ _
  clear hX
  have hmw1 := hb.size
  have kk := HC.out.bel hb; clear HC; have HC := Lib.hid kk; clear kk
  have kk := only_trans HO.out (only_bel (g := g) hb); clear HO; have HO := Lib.hid kk; clear kk hb
  have hsw1 := HO.out.size
  have zr := hk; clear hk; have hlzr := has_lt zr
  refine (week_any _ B g HC.out).mono ?_
  rintro e w2 ⟨A1, A2, m, m', o, c, rfl, _, hlo, hlc, _, _, _, _, ⟨b1, hb1, ow1⟩, ⟨b2, hb2, hb2s, hd2, ow2⟩, hC9, hO9⟩
  replace zr := hoo6 zr hO9 (by omega)
  have hmw2 := hO9.size
  have kk := only_trans HO.out hO9; clear HO; have HO := Lib.hid kk; clear kk
  clear HC; have HC := Lib.hid hC9; clear hC9 hO9
  have hsw2 := HO.out.size
  have RO := Lib.hid ow1; have RC := Lib.hid ow2; have hcq := fun q e => (ow2.lt q e).2; have HCQ := Lib.hid hcq; clear ow1 ow2 hcq
  obtain ⟨i0, hi0, hz0, hz1, hz2⟩ := info_parts spanInfo
  have I0 := Lib.hid hi0; have Z0 := Lib.hid hz0; have Z1 := Lib.hid hz1; have Z2 := Lib.hid hz2; clear hi0 hz0 hz1 hz2
  have hw9 : w.heap.size < b1 ∧ w.heap.size < b2 := by omega
  obtain ⟨hb3, hb4⟩ := hw9
  rcases Nat.eq_zero_or_pos o.length with hz | hz
  · skip
    have hoe : ((o.length : Int) == 0) = true := by rw [hz]; rfl
    clear hz
    have zrc0 := has_cell zr 0 rfl; have zrc1 := has_cell zr 1 rfl
    have zrf0 := has_free zr 0; have zrf1 := has_free zr 1
    have zrlt := has_lt zr
    have ZRH := Lib.hid zr; clear zr
    go_wp2_with fail
    obtain ⟨g0, g1⟩ := res_alloc ZRH.out (.slice A1 o.length m) (.slice A2 c.length m') (.cells #[.slice A1 o.length m, .slice A2 c.length m'] 26)
    refine bodyPost_ret (v := .agg #[.slice A1 o.length m, .slice A2 c.length m']) (by simp [results, Try.results12, go_sem, g0, g1]) rfl ?_
    exact any_alloc (any_close rfl (by omega) (by omega) RO.out RC.out hlo (by omega) HC.out hB hg HO.out rfl) _
  obtain ⟨gb, cap, hA1, hgb, hgl⟩ := RO.out.form hz
  injection hA1 with hA1 _ hcap
  subst hA1 hcap
  have hg2 : gb < b2 := hd2 gb rfl
  have hdis : ∀ k, (some gb = some k) → (Value.slice A2 c.length m').ownBlock ≠ some k := fun k e e2 => by injection e with e; have := (RC.out.lt _ e2).1; omega
  have HDIS := Lib.hid hdis; clear hdis hd2
  have hoe : ((o.length : Int) == 0) = false := by rw [beq_eq_false_iff_ne]; omega
  have hol : (o.length : Int) ≤ 20 := by omega
  have zrc0 := has_cell zr 0 rfl; have zrc1 := has_cell zr 1 rfl
  have zrlt := has_lt zr
  have ZRH := Lib.hid zr; clear zr
  go_wp2_with fail
  clear zrc0 zrc1 zrlt
  have zr := ZRH.out; clear ZRH
  generalize hX : (w2.alloc (.cells #[.slice (some ⟨gb, 0, none⟩) o.length m, .slice A2 c.length m'] 26)) = w3
  have hb : Below w2.heap.size w2 w3 := by rw [← hX]; exact balloc _ _
  have hk : Has w3 w2.heap.size 26 #[.slice (some ⟨gb, 0, none⟩) o.length m, .slice A2 c.length m'] := by rw [← hX]; exact has_new _ _ _
  clear hX
  have kk := own_o6 RO.out (only_bel (g := g) hb) (by omega); clear RO; have RO := Lib.hid kk; clear kk
  have kk := own_o6 RC.out (only_bel (g := g) hb) (by omega); clear RC; have RC := Lib.hid kk; clear kk
  replace zr := has_call zr hb
  have hmw3 := hb.size
  have kk := HC.out.bel hb; clear HC; have HC := Lib.hid kk; clear kk
  have kk := only_trans HO.out (only_bel (g := g) hb); clear HO; have HO := Lib.hid kk; clear kk hb
  have hsw3 := HO.out.size
  have zw := hk; clear hk; have hlzw := has_lt zw
  have hne1 : ¬ w.heap.size = w2.heap.size := by omega
  have hne2 : ¬ w2.heap.size = w.heap.size := by omega
  refine (below_any _ B g (o.length : Int) (by omega) (by omega) HC.out).mono ?_
  rintro e w4 ⟨x7, hx70, hx71, rfl, hC9, hO9⟩
  have kk := own_o6 RO.out hO9 (by omega); clear RO; have RO := Lib.hid kk; clear kk
  have kk := own_o6 RC.out hO9 (by omega); clear RC; have RC := Lib.hid kk; clear kk
  replace zr := hoo6 zr hO9 (by omega)
  replace zw := hoo6 zw hO9 (by omega)
  have hmw4 := hO9.size
  have kk := only_trans HO.out hO9; clear HO; have HO := Lib.hid kk; clear kk
  clear HC; have HC := Lib.hid hC9; clear hC9 hO9
  have hsw4 := HO.out.size
  obtain ⟨k, rfl⟩ := Int.eq_ofNat_of_zero_le hx70
  have hk : k < o.length := by omega
  have zrc0 := has_cell zr 0 rfl; have zrc1 := has_cell zr 1 rfl
  have zrlt := has_lt zr
  have zwc0 := has_cell zw 0 rfl; have zwc1 := has_cell zw 1 rfl
  have zwlt := has_lt zw
  have ZRH := Lib.hid zr; clear zr
  have ZWH := Lib.hid zw; clear zw
  go_wp2_with fail
  clear zrc0 zrc1 zrlt zwc0 zwc1 zwlt
  have zr := ZRH.out; clear ZRH
  have zw := ZWH.out; clear ZWH
  refine (below_any _ B g 12 (by omega) (by omega) HC.out).mono ?_
  rintro e w5 ⟨x0, hx00, hx01, rfl, hC9, hO9⟩
  have kk := own_o6 RO.out hO9 (by omega); clear RO; have RO := Lib.hid kk; clear kk
  have kk := own_o6 RC.out hO9 (by omega); clear RC; have RC := Lib.hid kk; clear kk
  replace zr := hoo6 zr hO9 (by omega)
  replace zw := hoo6 zw hO9 (by omega)
  have hmw5 := hO9.size
  have kk := only_trans HO.out hO9; clear HO; have HO := Lib.hid kk; clear kk
  clear HC; have HC := Lib.hid hC9; clear hC9 hO9
  have hsw5 := HO.out.size
  have hcs : x0 = 0 ∨ x0 = 1 ∨ x0 = 2 ∨ x0 = 3 ∨ 4 ≤ x0 := by omega
  rcases hcs with rfl | rfl | rfl | rfl | hcs
  · skip
    obtain ⟨yy, hyy⟩ : ∃ yy, o[k]? = some yy := ⟨_, List.getElem?_eq_getElem hk⟩
    have hyc := cellsL_at o k yy hyy
    have HYC := Lib.hid hyc; clear hyc hyy
    have S0 : (fun W : World => (W.cell? ⟨w2.heap.size, 0, none⟩ = some (.slice (some ⟨gb, 0, none⟩) o.length m)) ∧ W.cell? ⟨gb, k * 2, none⟩ = some (.int .i64 yy.1)) w5.drew := ⟨has_cell zw 0 rfl, (RO.out.cellAt (k * 2) (by omega)).trans HYC.out.1⟩
    have hy := S0.2
    have hkk0 : (0 : Int) ≤ (k : Int) := by omega
    have hkk1 : (k : Int) < (o.length : Int) := by omega
    have zrc0 := has_cell zr 0 rfl; have zrc1 := has_cell zr 1 rfl
    have zrlt := has_lt zr
    have zwc0 := has_cell zw 0 rfl; have zwc1 := has_cell zw 1 rfl
    have zwlt := has_lt zw
    have ZRH := Lib.hid zr; clear zr
    have ZWH := Lib.hid zw; clear zw
    try go_wp2_with fail
    clear zrc0 zrc1 zrlt zwc0 zwc1 zwlt hy
    refine wp_region_held_drew (S := (fun W : World => (W.cell? ⟨w2.heap.size, 0, none⟩ = some (.slice (some ⟨gb, 0, none⟩) o.length m)) ∧ W.cell? ⟨gb, k * 2, none⟩ = some (.int .i64 yy.1))) (by kernel_rfl) S0 (fun _ => ?_)
    refine any_take (i := 0) (some 21) (.pointer (some ⟨w2.heap.size, 0, none⟩)) rfl rfl (by kernel_rfl) (by kernel_rfl) (by kernel_rfl) (fun _ _ _ h => h) rfl (fun W hSw => ?_) (S0) ?_
    · (try dsimp only at hSw); go_simp <;> with_reducible rfl
    try simp only [Act.put, List.setIfInBounds_toArray, List.set_cons_zero, List.set_cons_succ]
    refine any_take (i := 1) (some 22) (.slice (some ⟨gb, 0, none⟩) o.length m) rfl rfl (by kernel_rfl) (by kernel_rfl) (by kernel_rfl) (fun _ _ _ h => h) rfl (fun W hSw => ?_) (S0) ?_
    · (try dsimp only at hSw); go_simp <;> with_reducible rfl
    try simp only [Act.put, List.setIfInBounds_toArray, List.set_cons_zero, List.set_cons_succ]
    refine any_take (i := 2) (some 23) (.int .i64 (k : Int)) rfl rfl (by kernel_rfl) (by kernel_rfl) (by kernel_rfl) (fun _ _ _ h => h) rfl (fun W hSw => ?_) (S0) ?_
    · (try dsimp only at hSw); go_simp <;> with_reducible rfl
    try simp only [Act.put, List.setIfInBounds_toArray, List.set_cons_zero, List.set_cons_succ]
    refine any_take (i := 3) (some 24) (.pointer (some ⟨g, 0, none⟩)) rfl rfl (by kernel_rfl) (by kernel_rfl) (by kernel_rfl) (fun _ _ _ h => h) rfl (fun W hSw => ?_) (S0) ?_
    · (try dsimp only at hSw); go_simp <;> with_reducible rfl
    try simp only [Act.put, List.setIfInBounds_toArray, List.set_cons_zero, List.set_cons_succ]
    refine any_take (i := 4) (some 25) (.pointer (some ⟨w2.heap.size, 0, none⟩)) rfl rfl (by kernel_rfl) (by kernel_rfl) (by kernel_rfl) (fun _ _ _ h => h) rfl (fun W hSw => ?_) (S0) ?_
    · (try dsimp only at hSw); go_simp <;> with_reducible rfl
    try simp only [Act.put, List.setIfInBounds_toArray, List.set_cons_zero, List.set_cons_succ]
    refine any_take (i := 5) (some 26) (.slice (some ⟨gb, 0, none⟩) o.length m) rfl rfl (by kernel_rfl) (by kernel_rfl) (by kernel_rfl) (fun _ _ _ h => h) rfl (fun W hSw => ?_) (S0) ?_
    · (try dsimp only at hSw); go_simp <;> with_reducible rfl
    try simp only [Act.put, List.setIfInBounds_toArray, List.set_cons_zero, List.set_cons_succ]
    refine any_take (i := 6) (some 27) (.int .i64 (k : Int)) rfl rfl (by kernel_rfl) (by kernel_rfl) (by kernel_rfl) (fun _ _ _ h => h) rfl (fun W hSw => ?_) (S0) ?_
    · (try dsimp only at hSw); go_simp <;> with_reducible rfl
    try simp only [Act.put, List.setIfInBounds_toArray, List.set_cons_zero, List.set_cons_succ]
    refine any_take (i := 7) (some 28) (.pointer (some ⟨gb, k * 2, none⟩)) rfl rfl (by kernel_rfl) (by kernel_rfl) (by kernel_rfl) (fun _ _ _ h => h) rfl (fun W hSw => ?_) (S0) ?_
    · (try dsimp only at hSw); go_simp <;> with_reducible rfl
    try simp only [Act.put, List.setIfInBounds_toArray, List.set_cons_zero, List.set_cons_succ]
    refine any_take (i := 8) (some 29) (.pointer (some ⟨gb, k * 2, none⟩)) rfl rfl (by kernel_rfl) (by kernel_rfl) (by kernel_rfl) (fun _ _ _ h => h) rfl (fun W hSw => ?_) (S0) ?_
    · (try dsimp only at hSw); go_simp <;> with_reducible rfl
    try simp only [Act.put, List.setIfInBounds_toArray, List.set_cons_zero, List.set_cons_succ]
    refine any_take (i := 9) (some 30) (.int .i64 yy.1) rfl rfl (by kernel_rfl) (by kernel_rfl) (by kernel_rfl) (fun _ _ _ h => h) rfl (fun W hSw => ?_) (S0) ?_
    · (try dsimp only at hSw); go_simp <;> with_reducible rfl
    try simp only [Act.put, List.setIfInBounds_toArray, List.set_cons_zero, List.set_cons_succ]
    have zr := ZRH.out; clear ZRH
    have zw := ZWH.out; clear ZWH
    refine wpAnyH_ready (rs := [10]) (by kernel_rfl) (by simp) ?_
    refine AllReadyH.cons rfl (fun K hK => ?_) AllReadyH.nil
    go_simp
    generalize hX : (w5.alloc (.cells #[.int .i64 (-1), .int .i64 0, .int .i64 168, .int .i64 169, .int .i64 yy.1] 3)) = w6
    have hb : Below w5.heap.size w5 w6 := by rw [← hX]; exact balloc _ _
    have hk : Has w6 w5.heap.size 3 #[.int .i64 (-1), .int .i64 0, .int .i64 168, .int .i64 169, .int .i64 yy.1] := by rw [← hX]; exact has_new _ _ _
    clear hX
    have kk := own_o6 RO.out (only_bel (g := g) hb) (by omega); clear RO; have RO := Lib.hid kk; clear kk
    have kk := own_o6 RC.out (only_bel (g := g) hb) (by omega); clear RC; have RC := Lib.hid kk; clear kk
    replace zr := has_call zr hb
    replace zw := has_call zw hb
    have hmw6 := hb.size
    have kk := HC.out.bel hb; clear HC; have HC := Lib.hid kk; clear kk
    have kk := only_trans HO.out (only_bel (g := g) hb); clear HO; have HO := Lib.hid kk; clear kk hb
    have hsw6 := HO.out.size
    have zl := hk; clear hk; have hlzl := has_lt zl
    have hb : Below w6.heap.size w6 w6.drew := (Below.refl _ _).drew
    have kk := own_o6 RO.out (only_bel (g := g) hb) (by omega); clear RO; have RO := Lib.hid kk; clear kk
    have kk := own_o6 RC.out (only_bel (g := g) hb) (by omega); clear RC; have RC := Lib.hid kk; clear kk
    replace zr := has_call zr hb
    replace zw := has_call zw hb
    replace zl := has_call zl hb
    have hmw6.drew := hb.size
    have kk := HC.out.bel hb; clear HC; have HC := Lib.hid kk; clear kk
    have kk := only_trans HO.out (only_bel (g := g) hb); clear HO; have HO := Lib.hid kk; clear kk hb
    have hsw6.drew := HO.out.size
    refine hK.out _ _ (show (fun W : World => (W.cell? ⟨w2.heap.size, 0, none⟩ = some (.slice (some ⟨gb, 0, none⟩) o.length m)) ∧ W.cell? ⟨gb, k * 2, none⟩ = some (.int .i64 yy.1)) _ from ⟨has_cell zw 0 rfl, (RO.out.cellAt (k * 2) (by omega)).trans HYC.out.1⟩) (fun _ => ?_)
    clear hK K
    try simp only [Act.put, List.setIfInBounds_toArray, List.set_cons_zero, List.set_cons_succ]
    refine wpAnyH_ready (rs := [11]) (by kernel_rfl) (by simp) ?_
    refine AllReadyH.cons rfl (fun K hK => ?_) AllReadyH.nil
    go_simp
    go_at_call 27
    refine (pickInt_any _ B g (w5.heap.size) 5 _ (min yy.1 (-1)) (max yy.1 169) HC.out zl rfl (by omega) (by omega) (by omega) (by intro j hj; rcases j with _ | _ | _ | _ | _ | j; exact ⟨_, by omega, by omega, rfl⟩; exact ⟨_, by omega, by omega, rfl⟩; exact ⟨_, by omega, by omega, rfl⟩; exact ⟨_, by omega, by omega, rfl⟩; exact ⟨_, by omega, by omega, rfl⟩; omega)).mono ?_
    rintro e w7 ⟨x9, hx90, hx91, rfl, hC9, hO9⟩
    have kk := own_o6 RO.out hO9 (by omega); clear RO; have RO := Lib.hid kk; clear kk
    have kk := own_o6 RC.out hO9 (by omega); clear RC; have RC := Lib.hid kk; clear kk
    replace zr := hoo6 zr hO9 (by omega)
    replace zw := hoo6 zw hO9 (by omega)
    have hmw7 := hO9.size
    have kk := only_trans HO.out hO9; clear HO; have HO := Lib.hid kk; clear kk
    clear HC; have HC := Lib.hid hC9; clear hC9 hO9
    have hsw7 := HO.out.size
    clear zl hlzl
    go_wp2_with fail
    have S7 : (fun W : World => (W.cell? ⟨w2.heap.size, 0, none⟩ = some (.slice (some ⟨gb, 0, none⟩) o.length m)) ∧ W.cell? ⟨gb, k * 2, none⟩ = some (.int .i64 yy.1)) w7 := ⟨has_cell zw 0 rfl, (RO.out.cellAt (k * 2) (by omega)).trans HYC.out.1⟩
    refine hK.out _ _ (show (fun W : World => (W.cell? ⟨w2.heap.size, 0, none⟩ = some (.slice (some ⟨gb, 0, none⟩) o.length m)) ∧ W.cell? ⟨gb, k * 2, none⟩ = some (.int .i64 yy.1)) _ from S7) (fun _ => ?_)
    clear hK K
    try simp only [Act.put, List.setIfInBounds_toArray, List.set_cons_zero, List.set_cons_succ]
    refine any_take (i := 12) (some 33) (.pointer (some ⟨gb, k * 2, none⟩)) rfl rfl (by kernel_rfl) (by kernel_rfl) (by kernel_rfl) (fun _ _ _ h => h) rfl (fun W hSw => ?_) (S7) ?_
    · (try dsimp only at hSw); go_simp <;> with_reducible rfl
    try simp only [Act.put, List.setIfInBounds_toArray, List.set_cons_zero, List.set_cons_succ]
    refine any_take (i := 13) (some 34) (.pointer (some ⟨gb, k * 2 + 1, none⟩)) rfl rfl (by kernel_rfl) (by kernel_rfl) (by kernel_rfl) (fun _ _ _ h => h) rfl (fun W hSw => ?_) (S7) ?_
    · (try dsimp only at hSw); go_simp <;> with_reducible rfl
    try simp only [Act.put, List.setIfInBounds_toArray, List.set_cons_zero, List.set_cons_succ]
    obtain ⟨cv, hcv⟩ : ∃ v, w7.cell? ⟨gb, k * 2 + 1, none⟩ = some v := ⟨_, (RO.out.cellAt (k * 2 + 1) (by omega)).trans HYC.out.2⟩
    have hfz := RO.out.frozenAt (k * 2 + 1)
    refine wpAnyH_ready (rs := [14]) (by kernel_rfl) (by simp) ?_
    refine AllReadyH.cons rfl (fun K hK => ?_) AllReadyH.nil
    go_simp
    skip
    have ro9 := (RO.out.stored (k * 2 + 1) (.int .i64 x9)).1
    have hgz : gb ≠ w2.heap.size := by omega
    have zw9 : Has (w7.setCell ⟨gb, k * 2 + 1, none⟩ (.int .i64 x9)) w2.heap.size 26 #[.slice (some ⟨gb, 0, none⟩) o.length m, .slice A2 c.length m'] := has_far zw (by show w2.heap.size ≠ gb; omega) _
    have zr9 : Has (w7.setCell ⟨gb, k * 2 + 1, none⟩ (.int .i64 x9)) w.heap.size 26 #[.slice none 0 0, .slice none 0 0] := has_far zr (by show w.heap.size ≠ gb; omega) _
    refine hK.out _ _ (show (fun W : World => (W.cell? ⟨w2.heap.size, 0, none⟩ = some (.slice (some ⟨gb, 0, none⟩) o.length m)) ∧ W.cell? ⟨gb, k * 2, none⟩ = some (.int .i64 yy.1)) _ from ⟨has_cell zw9 0 rfl, (ro9.cellAt (k * 2) (by omega)).trans (by rw [List.getElem?_set_ne (by omega)]; exact HYC.out.1)⟩) (fun _ => ?_)
    clear hK K
    try simp only [Act.put, List.setIfInBounds_toArray, List.set_cons_zero, List.set_cons_succ]
    refine wpAnyH_done (by kernel_rfl) ?_ _
    obtain ⟨o9, hl9, hs9⟩ := cellsL_set o (k * 2 + 1) x9
    rw [hs9] at ro9
    have rc9 := own_other RC.out (fun e => HDIS.out gb rfl e) (k * 2 + 1) (.int .i64 x9)
    have c9 := HC.out.setn (k := gb) (by omega) (by omega) (k * 2 + 1) (.int .i64 x9); have o10 := only_setn HO.out (k := gb) (by omega) (k * 2 + 1) (.int .i64 x9)
    have RO9 := Lib.hid ro9; have RC9 := Lib.hid rc9; have C9 := Lib.hid c9; have O9 := Lib.hid o10; clear ro9 rc9 c9 o10 hs9 hcv hfz
    have ZR9 := Lib.hid zr9
    have fz0 := has_free zr9 0; have fz1 := has_free zr9 1; have zz0 := has_cell zr9 0 rfl; have zz1 := has_cell zr9 1 rfl; have zx0 := has_cell zw9 0 rfl; have zx1 := has_cell zw9 1 rfl
    clear zr zw zw9 zr9
    go_wp2_with fail
    obtain ⟨g0, g1⟩ := res_cells ZR9.out (.slice (some ⟨gb, 0, none⟩) o.length m) (.slice A2 c.length m')
    refine bodyPost_ret (v := .agg #[.slice (some ⟨gb, 0, none⟩) o.length m, .slice A2 c.length m']) (by simp [results, Try.results12, go_sem, g0, g1]) rfl ?_
    have ro := RO9.out; rw [← hl9] at ro ⊢
    exact any_close rfl (by omega) (by omega) ro RC9.out (by omega) (by omega) C9.out hB hg O9.out rfl
  · skip
    obtain ⟨yy, hyy⟩ : ∃ yy, o[k]? = some yy := ⟨_, List.getElem?_eq_getElem hk⟩
    have hyc := cellsL_at o k yy hyy
    have HYC := Lib.hid hyc; clear hyc hyy
    have S0 : (fun W : World => (W.cell? ⟨w2.heap.size, 0, none⟩ = some (.slice (some ⟨gb, 0, none⟩) o.length m))) w5.drew := has_cell zw 0 rfl
    have hkk0 : (0 : Int) ≤ (k : Int) := by omega
    have hkk1 : (k : Int) < (o.length : Int) := by omega
    have zrc0 := has_cell zr 0 rfl; have zrc1 := has_cell zr 1 rfl
    have zrlt := has_lt zr
    have zwc0 := has_cell zw 0 rfl; have zwc1 := has_cell zw 1 rfl
    have zwlt := has_lt zw
    have ZRH := Lib.hid zr; clear zr
    have ZWH := Lib.hid zw; clear zw
    try go_wp2_with fail
    clear zrc0 zrc1 zrlt zwc0 zwc1 zwlt
    refine wp_region_held_drew (S := (fun W : World => (W.cell? ⟨w2.heap.size, 0, none⟩ = some (.slice (some ⟨gb, 0, none⟩) o.length m)))) (by kernel_rfl) S0 (fun _ => ?_)
    refine any_take (i := 0) (some 37) (.pointer (some ⟨w2.heap.size, 0, none⟩)) rfl rfl (by kernel_rfl) (by kernel_rfl) (by kernel_rfl) (fun _ _ _ h => h) rfl (fun W hSw => ?_) (S0) ?_
    · (try dsimp only at hSw); go_simp <;> with_reducible rfl
    try simp only [Act.put, List.setIfInBounds_toArray, List.set_cons_zero, List.set_cons_succ]
    refine any_take (i := 1) (some 38) (.slice (some ⟨gb, 0, none⟩) o.length m) rfl rfl (by kernel_rfl) (by kernel_rfl) (by kernel_rfl) (fun _ _ _ h => h) rfl (fun W hSw => ?_) (S0) ?_
    · (try dsimp only at hSw); go_simp <;> with_reducible rfl
    try simp only [Act.put, List.setIfInBounds_toArray, List.set_cons_zero, List.set_cons_succ]
    refine any_take (i := 2) (some 39) (.int .i64 (k : Int)) rfl rfl (by kernel_rfl) (by kernel_rfl) (by kernel_rfl) (fun _ _ _ h => h) rfl (fun W hSw => ?_) (S0) ?_
    · (try dsimp only at hSw); go_simp <;> with_reducible rfl
    try simp only [Act.put, List.setIfInBounds_toArray, List.set_cons_zero, List.set_cons_succ]
    refine any_take (i := 3) (some 40) (.pointer (some ⟨g, 0, none⟩)) rfl rfl (by kernel_rfl) (by kernel_rfl) (by kernel_rfl) (fun _ _ _ h => h) rfl (fun W hSw => ?_) (S0) ?_
    · (try dsimp only at hSw); go_simp <;> with_reducible rfl
    try simp only [Act.put, List.setIfInBounds_toArray, List.set_cons_zero, List.set_cons_succ]
    have zr := ZRH.out; clear ZRH
    have zw := ZWH.out; clear ZWH
    refine wpAnyH_ready (rs := [4]) (by kernel_rfl) (by simp) ?_
    refine AllReadyH.cons rfl (fun K hK => ?_) AllReadyH.nil
    go_simp
    generalize hX : (w5.alloc (.cells #[.int .i64 (-1), .int .i64 0, .int .i64 200] 3)) = w6
    have hb : Below w5.heap.size w5 w6 := by rw [← hX]; exact balloc _ _
    have hk : Has w6 w5.heap.size 3 #[.int .i64 (-1), .int .i64 0, .int .i64 200] := by rw [← hX]; exact has_new _ _ _
    clear hX
    have kk := own_o6 RO.out (only_bel (g := g) hb) (by omega); clear RO; have RO := Lib.hid kk; clear kk
    have kk := own_o6 RC.out (only_bel (g := g) hb) (by omega); clear RC; have RC := Lib.hid kk; clear kk
    replace zr := has_call zr hb
    replace zw := has_call zw hb
    have hmw6 := hb.size
    have kk := HC.out.bel hb; clear HC; have HC := Lib.hid kk; clear kk
    have kk := only_trans HO.out (only_bel (g := g) hb); clear HO; have HO := Lib.hid kk; clear kk hb
    have hsw6 := HO.out.size
    have zl := hk; clear hk; have hlzl := has_lt zl
    have hb : Below w6.heap.size w6 w6.drew := (Below.refl _ _).drew
    have kk := own_o6 RO.out (only_bel (g := g) hb) (by omega); clear RO; have RO := Lib.hid kk; clear kk
    have kk := own_o6 RC.out (only_bel (g := g) hb) (by omega); clear RC; have RC := Lib.hid kk; clear kk
    replace zr := has_call zr hb
    replace zw := has_call zw hb
    replace zl := has_call zl hb
    have hmw6.drew := hb.size
    have kk := HC.out.bel hb; clear HC; have HC := Lib.hid kk; clear kk
    have kk := only_trans HO.out (only_bel (g := g) hb); clear HO; have HO := Lib.hid kk; clear kk hb
    have hsw6.drew := HO.out.size
    refine hK.out _ _ (show (fun W : World => (W.cell? ⟨w2.heap.size, 0, none⟩ = some (.slice (some ⟨gb, 0, none⟩) o.length m))) _ from has_cell zw 0 rfl) (fun _ => ?_)
    clear hK K
    try simp only [Act.put, List.setIfInBounds_toArray, List.set_cons_zero, List.set_cons_succ]
    refine wpAnyH_ready (rs := [5]) (by kernel_rfl) (by simp) ?_
    refine AllReadyH.cons rfl (fun K hK => ?_) AllReadyH.nil
    go_simp
    go_at_call 27
    refine (pickInt_any _ B g (w5.heap.size) 3 _ (-1) 200 HC.out zl rfl (by omega) (by omega) (by omega) (by intro j hj; rcases j with _ | _ | _ | j; exact ⟨_, by omega, by omega, rfl⟩; exact ⟨_, by omega, by omega, rfl⟩; exact ⟨_, by omega, by omega, rfl⟩; omega)).mono ?_
    rintro e w7 ⟨x9, hx90, hx91, rfl, hC9, hO9⟩
    have kk := own_o6 RO.out hO9 (by omega); clear RO; have RO := Lib.hid kk; clear kk
    have kk := own_o6 RC.out hO9 (by omega); clear RC; have RC := Lib.hid kk; clear kk
    replace zr := hoo6 zr hO9 (by omega)
    replace zw := hoo6 zw hO9 (by omega)
    have hmw7 := hO9.size
    have kk := only_trans HO.out hO9; clear HO; have HO := Lib.hid kk; clear kk
    clear HC; have HC := Lib.hid hC9; clear hC9 hO9
    have hsw7 := HO.out.size
    clear zl hlzl
    go_wp2_with fail
    have S7 : (fun W : World => (W.cell? ⟨w2.heap.size, 0, none⟩ = some (.slice (some ⟨gb, 0, none⟩) o.length m))) w7 := has_cell zw 0 rfl
    refine hK.out _ _ (show (fun W : World => (W.cell? ⟨w2.heap.size, 0, none⟩ = some (.slice (some ⟨gb, 0, none⟩) o.length m))) _ from S7) (fun _ => ?_)
    clear hK K
    try simp only [Act.put, List.setIfInBounds_toArray, List.set_cons_zero, List.set_cons_succ]
    refine any_take (i := 6) (some 43) (.pointer (some ⟨gb, k * 2, none⟩)) rfl rfl (by kernel_rfl) (by kernel_rfl) (by kernel_rfl) (fun _ _ _ h => h) rfl (fun W hSw => ?_) (S7) ?_
    · (try dsimp only at hSw); go_simp <;> with_reducible rfl
    try simp only [Act.put, List.setIfInBounds_toArray, List.set_cons_zero, List.set_cons_succ]
    refine any_take (i := 7) (some 44) (.pointer (some ⟨gb, k * 2, none⟩)) rfl rfl (by kernel_rfl) (by kernel_rfl) (by kernel_rfl) (fun _ _ _ h => h) rfl (fun W hSw => ?_) (S7) ?_
    · (try dsimp only at hSw); go_simp <;> with_reducible rfl
    try simp only [Act.put, List.setIfInBounds_toArray, List.set_cons_zero, List.set_cons_succ]
    obtain ⟨cv, hcv⟩ : ∃ v, w7.cell? ⟨gb, k * 2, none⟩ = some v := ⟨_, (RO.out.cellAt (k * 2) (by omega)).trans HYC.out.1⟩
    have hfz := RO.out.frozenAt (k * 2)
    refine wpAnyH_ready (rs := [8]) (by kernel_rfl) (by simp) ?_
    refine AllReadyH.cons rfl (fun K hK => ?_) AllReadyH.nil
    go_simp
    skip
    have ro9 := (RO.out.stored (k * 2) (.int .i64 x9)).1
    have hgz : gb ≠ w2.heap.size := by omega
    have zw9 : Has (w7.setCell ⟨gb, k * 2, none⟩ (.int .i64 x9)) w2.heap.size 26 #[.slice (some ⟨gb, 0, none⟩) o.length m, .slice A2 c.length m'] := has_far zw (by show w2.heap.size ≠ gb; omega) _
    have zr9 : Has (w7.setCell ⟨gb, k * 2, none⟩ (.int .i64 x9)) w.heap.size 26 #[.slice none 0 0, .slice none 0 0] := has_far zr (by show w.heap.size ≠ gb; omega) _
    refine hK.out _ _ (show (fun W : World => (W.cell? ⟨w2.heap.size, 0, none⟩ = some (.slice (some ⟨gb, 0, none⟩) o.length m))) _ from has_cell zw9 0 rfl) (fun _ => ?_)
    clear hK K
    try simp only [Act.put, List.setIfInBounds_toArray, List.set_cons_zero, List.set_cons_succ]
    refine wpAnyH_done (by kernel_rfl) ?_ _
    obtain ⟨o9, hl9, hs9⟩ := cellsL_set o (k * 2) x9
    rw [hs9] at ro9
    have rc9 := own_other RC.out (fun e => HDIS.out gb rfl e) (k * 2) (.int .i64 x9)
    have c9 := HC.out.setn (k := gb) (by omega) (by omega) (k * 2) (.int .i64 x9); have o10 := only_setn HO.out (k := gb) (by omega) (k * 2) (.int .i64 x9)
    have RO9 := Lib.hid ro9; have RC9 := Lib.hid rc9; have C9 := Lib.hid c9; have O9 := Lib.hid o10; clear ro9 rc9 c9 o10 hs9 hcv hfz
    have ZR9 := Lib.hid zr9
    have fz0 := has_free zr9 0; have fz1 := has_free zr9 1; have zz0 := has_cell zr9 0 rfl; have zz1 := has_cell zr9 1 rfl; have zx0 := has_cell zw9 0 rfl; have zx1 := has_cell zw9 1 rfl
    clear zr zw zw9 zr9
    go_wp2_with fail
    obtain ⟨g0, g1⟩ := res_cells ZR9.out (.slice (some ⟨gb, 0, none⟩) o.length m) (.slice A2 c.length m')
    refine bodyPost_ret (v := .agg #[.slice (some ⟨gb, 0, none⟩) o.length m, .slice A2 c.length m']) (by simp [results, Try.results12, go_sem, g0, g1]) rfl ?_
    have ro := RO9.out; rw [← hl9] at ro ⊢
    exact any_close rfl (by omega) (by omega) ro RC9.out (by omega) (by omega) C9.out hB hg O9.out rfl
  · skip
    have zrc0 := has_cell zr 0 rfl; have zrc1 := has_cell zr 1 rfl
    have zrlt := has_lt zr
    have zwc0 := has_cell zw 0 rfl; have zwc1 := has_cell zw 1 rfl
    have zwlt := has_lt zw
    have ZRH := Lib.hid zr; clear zr
    have ZWH := Lib.hid zw; clear zw
    try go_wp2_with fail
    clear zrc0 zrc1 zrlt zwc0 zwc1 zwlt
    have zr := ZRH.out; clear ZRH
    have zw := ZWH.out; clear ZWH
    refine wp_region_held_drew (S := (fun _ : World => True)) (by kernel_rfl) trivial (fun _ => ?_)
    have hb : Below w5.heap.size w5 w5.drew := (Below.refl _ _).drew
    have kk := own_o6 RO.out (only_bel (g := g) hb) (by omega); clear RO; have RO := Lib.hid kk; clear kk
    have kk := own_o6 RC.out (only_bel (g := g) hb) (by omega); clear RC; have RC := Lib.hid kk; clear kk
    replace zr := has_call zr hb
    replace zw := has_call zw hb
    have hmw5.drew := hb.size
    have kk := HC.out.bel hb; clear HC; have HC := Lib.hid kk; clear kk
    have kk := only_trans HO.out (only_bel (g := g) hb); clear HO; have HO := Lib.hid kk; clear kk hb
    have hsw5.drew := HO.out.size
    refine any_take (i := 0) (some 47) (.pointer (some ⟨w2.heap.size, 1, none⟩)) rfl rfl (by kernel_rfl) (by kernel_rfl) (by kernel_rfl) (fun _ _ _ h => h) rfl (fun W hSw => ?_) (trivial) ?_
    · (try dsimp only at hSw); go_simp <;> with_reducible rfl
    try simp only [Act.put, List.setIfInBounds_toArray, List.set_cons_zero, List.set_cons_succ]
    refine any_take (i := 2) (some 49) (.pointer (some ⟨g, 0, none⟩)) rfl rfl (by kernel_rfl) (by kernel_rfl) (by kernel_rfl) (fun _ _ _ h => h) rfl (fun W hSw => ?_) (trivial) ?_
    · (try dsimp only at hSw); go_simp <;> with_reducible rfl
    try simp only [Act.put, List.setIfInBounds_toArray, List.set_cons_zero, List.set_cons_succ]
    refine wpAnyH_ready (rs := [1, 3]) (by kernel_rfl) (by simp) ?_
    refine AllReadyH.cons rfl (fun K hK => ?_) (AllReadyH.cons rfl (fun K hK => ?_) AllReadyH.nil)
    · skip
      have zc1 := has_cell zw 1 rfl
      go_simp
      clear zc1
      refine hK.out _ _ trivial (fun _ => ?_)
      clear hK K
      try simp only [Act.put, List.setIfInBounds_toArray, List.set_cons_zero, List.set_cons_succ]
      refine wpAnyH_ready (rs := [3]) (by kernel_rfl) (by simp) ?_
      refine AllReadyH.cons rfl (fun K hK => ?_) AllReadyH.nil
      · skip
        go_simp
        go_at_call 13
        refine (below_any _ B g 3 (by omega) (by omega) HC.out).mono ?_
        rintro e w6 ⟨x9, hx90, hx91, rfl, hC9, hO9⟩
        have kk := own_o6 RO.out hO9 (by omega); clear RO; have RO := Lib.hid kk; clear kk
        have kk := own_o6 RC.out hO9 (by omega); clear RC; have RC := Lib.hid kk; clear kk
        replace zr := hoo6 zr hO9 (by omega)
        replace zw := hoo6 zw hO9 (by omega)
        have hmw6 := hO9.size
        have kk := only_trans HO.out hO9; clear HO; have HO := Lib.hid kk; clear kk
        clear HC; have HC := Lib.hid hC9; clear hC9 hO9
        have hsw6 := HO.out.size
        have wx9 : IntKind.i64.wrap (19999 + x9) = 19999 + x9 := IntWalk.i64_in _ (by omega)
        go_wp2_with fail
        refine hK.out _ _ trivial (fun _ => ?_)
        clear hK K
        try simp only [Act.put, List.setIfInBounds_toArray, List.set_cons_zero, List.set_cons_succ]
        refine any_take (i := 4) (some 51) (.int .i64 (19999 + x9)) rfl rfl (by kernel_rfl) (by kernel_rfl) (by kernel_rfl) (fun _ _ _ h => h) rfl (fun W hSw => ?_) (trivial) ?_
        · (try dsimp only at hSw); go_simp <;> with_reducible rfl
        try simp only [Act.put, List.setIfInBounds_toArray, List.set_cons_zero, List.set_cons_succ]
        refine any_take (i := 5) (some 52) (.agg #[.int .i64 19990, .int .i64 (19999 + x9)]) rfl rfl (by kernel_rfl) (by kernel_rfl) (by kernel_rfl) (fun _ _ _ h => h) rfl (fun W hSw => ?_) (trivial) ?_
        · (try dsimp only at hSw); go_simp <;> with_reducible rfl
        try simp only [Act.put, List.setIfInBounds_toArray, List.set_cons_zero, List.set_cons_succ]
        refine wpAnyH_ready (rs := [6]) (by kernel_rfl) (by simp) ?_
        refine AllReadyH.cons rfl (fun K hK => ?_) AllReadyH.nil
        · skip
          go_simp
          generalize hX : (w6.alloc (.cells #[.int .i64 19990, .int .i64 (19999 + x9)] 57)) = w7
          have hb : Below w6.heap.size w6 w7 := by rw [← hX]; exact balloc _ _
          have hk : Has w7 w6.heap.size 57 #[.int .i64 19990, .int .i64 (19999 + x9)] := by rw [← hX]; exact has_new _ _ _
          clear hX
          have kk := own_o6 RO.out (only_bel (g := g) hb) (by omega); clear RO; have RO := Lib.hid kk; clear kk
          have kk := own_o6 RC.out (only_bel (g := g) hb) (by omega); clear RC; have RC := Lib.hid kk; clear kk
          replace zr := has_call zr hb
          replace zw := has_call zw hb
          have hmw7 := hb.size
          have kk := HC.out.bel hb; clear HC; have HC := Lib.hid kk; clear kk
          have kk := only_trans HO.out (only_bel (g := g) hb); clear HO; have HO := Lib.hid kk; clear kk hb
          have hsw7 := HO.out.size
          have zs := hk; clear hk; have hlzs := has_lt zs
          refine hK.out _ _ trivial (fun _ => ?_)
          clear hK K
          try simp only [Act.put, List.setIfInBounds_toArray, List.set_cons_zero, List.set_cons_succ]
          refine wpAnyH_ready (rs := [7]) (by kernel_rfl) (by simp) ?_
          refine AllReadyH.cons rfl (fun K hK => ?_) AllReadyH.nil
          · skip
            refine step_app rfl _ _ 24 rfl b2 57 i0 (.agg #[.int .i64 0, .int .i64 0]) 2 16 Try.underlying24 I0.out Z0.out Z1.out Z2.out rfl (by decide) _ _ _ rfl RC.out _ 1 1 (#[.int .i64 19990, .int .i64 (19999 + x9)] : Array Value).toList rfl (src_has6 zs 2 rfl (by simp [Value.oneCell'])) (by unfold maxLen; omega) (by omega) (by omega) ?_
            intro A3 c3 w9 hown1 hgrow _
            have hne1 : ∀ q, (Value.slice A2 c.length m').ownBlock = some q → b2 ≤ q := fun q e => (RC.out.lt _ e).1
            have hqz := HCQ.out
            have zw9 : Has w9 w2.heap.size 26 #[.slice (some ⟨gb, 0, none⟩) o.length m, .slice A2 c.length m'] := (hgrow.block w2.heap.size (has_lt zw) (fun e => by have := hqz w2.heap.size e.symm; omega)).trans zw
            have zr9 : Has w9 w.heap.size 26 #[.slice none 0 0, .slice none 0 0] := (hgrow.block w.heap.size (has_lt zr) (fun e => by have := hne1 w.heap.size e.symm; omega)).trans zr
            have ro9 := RO.out.kept hgrow (.inr (fun e => HDIS.out gb rfl e.symm))
            have hc9o : Cur w9 B g := HC.out.only fun q hq hq2 => hgrow.block q hq (fun e => by have := hne1 q e.symm; omega)
            have ho9o : Only w g w9 := ⟨hgrow.os.trans HO.out.os, hgrow.tape.trans HO.out.tape, hgrow.output.trans HO.out.output, Nat.le_trans HO.out.size hgrow.size, fun j hj hne => (hgrow.block j (Nat.lt_of_lt_of_le hj HO.out.size) (fun e => by have := hne1 j e.symm; omega)).trans (HO.out.block j hj hne)⟩
            have rc9 := sp_more (x := 19990) (y := 19999 + x9) hown1
            have hs9 := hgrow.size
            obtain ⟨c9, hc9⟩ : ∃ c9, c ++ [(19990, 19999 + x9)] = c9 := ⟨_, rfl⟩
            have hcl : c.length + 1 = c9.length := by rw [← hc9]; simp
            rw [hc9] at rc9; rw [hcl] at rc9 ⊢
            have hl9 : c9.length ≤ 21 := by omega
            clear hown1 hcl hc9
            have hfr := row_not rc9 zw9
            refine hK.out _ _ trivial (fun _ => ?_)
            clear hK K
            try simp only [Act.put, List.setIfInBounds_toArray, List.set_cons_zero, List.set_cons_succ]
            refine any_take (i := 8) (some 55) (.pointer (some ⟨w2.heap.size, 1, none⟩)) rfl rfl (by kernel_rfl) (by kernel_rfl) (by kernel_rfl) (fun _ _ _ h => h) rfl (fun W hSw => ?_) (trivial) ?_
            · (try dsimp only at hSw); go_simp <;> with_reducible rfl
            try simp only [Act.put, List.setIfInBounds_toArray, List.set_cons_zero, List.set_cons_succ]
            refine wpAnyH_ready (rs := [9]) (by kernel_rfl) (by simp) ?_
            refine AllReadyH.cons rfl (fun K hK => ?_) AllReadyH.nil
            · skip
              have zx1 := has_cell zw9 1 rfl; have zf1 := has_free zw9 1
              go_simp
              clear zx1 zf1
              refine hK.out _ _ trivial (fun _ => ?_)
              clear hK K
              try simp only [Act.put, List.setIfInBounds_toArray, List.set_cons_zero, List.set_cons_succ]
              refine wpAnyH_done (by kernel_rfl) ?_ _
              have zwX : Has (w9.setCell ⟨w2.heap.size, 1, none⟩ (.slice A3 c9.length c3)) w2.heap.size 26 #[.slice (some ⟨gb, 0, none⟩) o.length m, .slice A3 c9.length c3] := by simpa using has_set zw9 1 (.slice A3 c9.length c3)
              have zrX : Has (w9.setCell ⟨w2.heap.size, 1, none⟩ (.slice A3 c9.length c3)) w.heap.size 26 #[.slice none 0 0, .slice none 0 0] := has_far zr9 (by show w.heap.size ≠ w2.heap.size; omega) _
              have e9 : gb ≠ w2.heap.size := by omega
              have roX := own_other ro9 (b := w2.heap.size) (fun e => e9 (by simpa [Value.ownBlock] using e)) 1 (.slice A3 c9.length c3)
              have rcX := own_other rc9 (b := w2.heap.size) (fun e => hfr e) 1 (.slice A3 c9.length c3)
              have cX := hc9o.setn (k := w2.heap.size) (by omega) (by omega) 1 (.slice A3 c9.length c3); have oX := only_setn ho9o (k := w2.heap.size) (by omega) 1 (.slice A3 c9.length c3)
              have ROX := Lib.hid roX; have RCX := Lib.hid rcX; have CX := Lib.hid cX; have OX := Lib.hid oX; have ZRX := Lib.hid zrX; clear roX rcX cX oX
              have fz0 := has_free zrX 0; have fz1 := has_free zrX 1; have zz0 := has_cell zrX 0 rfl; have zz1 := has_cell zrX 1 rfl; have zx0 := has_cell zwX 0 rfl; have zx1 := has_cell zwX 1 rfl
              clear zrX zwX zw9 zr9 zw zr ro9 rc9 hc9o ho9o hgrow hne1 hqz hfr
              go_wp2_with fail
              obtain ⟨g0, g1⟩ := res_cells ZRX.out (.slice (some ⟨gb, 0, none⟩) o.length m) (.slice A3 c9.length c3)
              refine bodyPost_ret (v := .agg #[.slice (some ⟨gb, 0, none⟩) o.length m, .slice A3 c9.length c3]) (by simp [results, Try.results12, go_sem, g0, g1]) rfl ?_
              exact any_close rfl (by omega) (by omega) ROX.out RCX.out (by omega) (by omega) CX.out hB hg OX.out rfl
    · skip
      go_simp
      go_at_call 13
      refine (below_any _ B g 3 (by omega) (by omega) HC.out).mono ?_
      rintro e w6 ⟨x9, hx90, hx91, rfl, hC9, hO9⟩
      have kk := own_o6 RO.out hO9 (by omega); clear RO; have RO := Lib.hid kk; clear kk
      have kk := own_o6 RC.out hO9 (by omega); clear RC; have RC := Lib.hid kk; clear kk
      replace zr := hoo6 zr hO9 (by omega)
      replace zw := hoo6 zw hO9 (by omega)
      have hmw6 := hO9.size
      have kk := only_trans HO.out hO9; clear HO; have HO := Lib.hid kk; clear kk
      clear HC; have HC := Lib.hid hC9; clear hC9 hO9
      have hsw6 := HO.out.size
      have wx9 : IntKind.i64.wrap (19999 + x9) = 19999 + x9 := IntWalk.i64_in _ (by omega)
      go_wp2_with fail
      refine hK.out _ _ trivial (fun _ => ?_)
      clear hK K
      try simp only [Act.put, List.setIfInBounds_toArray, List.set_cons_zero, List.set_cons_succ]
      refine any_take (i := 4) (some 51) (.int .i64 (19999 + x9)) rfl rfl (by kernel_rfl) (by kernel_rfl) (by kernel_rfl) (fun _ _ _ h => h) rfl (fun W hSw => ?_) (trivial) ?_
      · (try dsimp only at hSw); go_simp <;> with_reducible rfl
      try simp only [Act.put, List.setIfInBounds_toArray, List.set_cons_zero, List.set_cons_succ]
      refine any_take (i := 5) (some 52) (.agg #[.int .i64 19990, .int .i64 (19999 + x9)]) rfl rfl (by kernel_rfl) (by kernel_rfl) (by kernel_rfl) (fun _ _ _ h => h) rfl (fun W hSw => ?_) (trivial) ?_
      · (try dsimp only at hSw); go_simp <;> with_reducible rfl
      try simp only [Act.put, List.setIfInBounds_toArray, List.set_cons_zero, List.set_cons_succ]
      refine wpAnyH_ready (rs := [1, 6]) (by kernel_rfl) (by simp) ?_
      refine AllReadyH.cons rfl (fun K hK => ?_) (AllReadyH.cons rfl (fun K hK => ?_) AllReadyH.nil)
      · skip
        have zc1 := has_cell zw 1 rfl
        go_simp
        clear zc1
        refine hK.out _ _ trivial (fun _ => ?_)
        clear hK K
        try simp only [Act.put, List.setIfInBounds_toArray, List.set_cons_zero, List.set_cons_succ]
        refine wpAnyH_ready (rs := [6]) (by kernel_rfl) (by simp) ?_
        refine AllReadyH.cons rfl (fun K hK => ?_) AllReadyH.nil
        · skip
          go_simp
          generalize hX : (w6.alloc (.cells #[.int .i64 19990, .int .i64 (19999 + x9)] 57)) = w7
          have hb : Below w6.heap.size w6 w7 := by rw [← hX]; exact balloc _ _
          have hk : Has w7 w6.heap.size 57 #[.int .i64 19990, .int .i64 (19999 + x9)] := by rw [← hX]; exact has_new _ _ _
          clear hX
          have kk := own_o6 RO.out (only_bel (g := g) hb) (by omega); clear RO; have RO := Lib.hid kk; clear kk
          have kk := own_o6 RC.out (only_bel (g := g) hb) (by omega); clear RC; have RC := Lib.hid kk; clear kk
          replace zr := has_call zr hb
          replace zw := has_call zw hb
          have hmw7 := hb.size
          have kk := HC.out.bel hb; clear HC; have HC := Lib.hid kk; clear kk
          have kk := only_trans HO.out (only_bel (g := g) hb); clear HO; have HO := Lib.hid kk; clear kk hb
          have hsw7 := HO.out.size
          have zs := hk; clear hk; have hlzs := has_lt zs
          refine hK.out _ _ trivial (fun _ => ?_)
          clear hK K
          try simp only [Act.put, List.setIfInBounds_toArray, List.set_cons_zero, List.set_cons_succ]
          refine wpAnyH_ready (rs := [7]) (by kernel_rfl) (by simp) ?_
          refine AllReadyH.cons rfl (fun K hK => ?_) AllReadyH.nil
          · skip
            refine step_app rfl _ _ 24 rfl b2 57 i0 (.agg #[.int .i64 0, .int .i64 0]) 2 16 Try.underlying24 I0.out Z0.out Z1.out Z2.out rfl (by decide) _ _ _ rfl RC.out _ 1 1 (#[.int .i64 19990, .int .i64 (19999 + x9)] : Array Value).toList rfl (src_has6 zs 2 rfl (by simp [Value.oneCell'])) (by unfold maxLen; omega) (by omega) (by omega) ?_
            intro A3 c3 w9 hown1 hgrow _
            have hne1 : ∀ q, (Value.slice A2 c.length m').ownBlock = some q → b2 ≤ q := fun q e => (RC.out.lt _ e).1
            have hqz := HCQ.out
            have zw9 : Has w9 w2.heap.size 26 #[.slice (some ⟨gb, 0, none⟩) o.length m, .slice A2 c.length m'] := (hgrow.block w2.heap.size (has_lt zw) (fun e => by have := hqz w2.heap.size e.symm; omega)).trans zw
            have zr9 : Has w9 w.heap.size 26 #[.slice none 0 0, .slice none 0 0] := (hgrow.block w.heap.size (has_lt zr) (fun e => by have := hne1 w.heap.size e.symm; omega)).trans zr
            have ro9 := RO.out.kept hgrow (.inr (fun e => HDIS.out gb rfl e.symm))
            have hc9o : Cur w9 B g := HC.out.only fun q hq hq2 => hgrow.block q hq (fun e => by have := hne1 q e.symm; omega)
            have ho9o : Only w g w9 := ⟨hgrow.os.trans HO.out.os, hgrow.tape.trans HO.out.tape, hgrow.output.trans HO.out.output, Nat.le_trans HO.out.size hgrow.size, fun j hj hne => (hgrow.block j (Nat.lt_of_lt_of_le hj HO.out.size) (fun e => by have := hne1 j e.symm; omega)).trans (HO.out.block j hj hne)⟩
            have rc9 := sp_more (x := 19990) (y := 19999 + x9) hown1
            have hs9 := hgrow.size
            obtain ⟨c9, hc9⟩ : ∃ c9, c ++ [(19990, 19999 + x9)] = c9 := ⟨_, rfl⟩
            have hcl : c.length + 1 = c9.length := by rw [← hc9]; simp
            rw [hc9] at rc9; rw [hcl] at rc9 ⊢
            have hl9 : c9.length ≤ 21 := by omega
            clear hown1 hcl hc9
            have hfr := row_not rc9 zw9
            refine hK.out _ _ trivial (fun _ => ?_)
            clear hK K
            try simp only [Act.put, List.setIfInBounds_toArray, List.set_cons_zero, List.set_cons_succ]
            refine any_take (i := 8) (some 55) (.pointer (some ⟨w2.heap.size, 1, none⟩)) rfl rfl (by kernel_rfl) (by kernel_rfl) (by kernel_rfl) (fun _ _ _ h => h) rfl (fun W hSw => ?_) (trivial) ?_
            · (try dsimp only at hSw); go_simp <;> with_reducible rfl
            try simp only [Act.put, List.setIfInBounds_toArray, List.set_cons_zero, List.set_cons_succ]
            refine wpAnyH_ready (rs := [9]) (by kernel_rfl) (by simp) ?_
            refine AllReadyH.cons rfl (fun K hK => ?_) AllReadyH.nil
            · skip
              have zx1 := has_cell zw9 1 rfl; have zf1 := has_free zw9 1
              go_simp
              clear zx1 zf1
              refine hK.out _ _ trivial (fun _ => ?_)
              clear hK K
              try simp only [Act.put, List.setIfInBounds_toArray, List.set_cons_zero, List.set_cons_succ]
              refine wpAnyH_done (by kernel_rfl) ?_ _
              have zwX : Has (w9.setCell ⟨w2.heap.size, 1, none⟩ (.slice A3 c9.length c3)) w2.heap.size 26 #[.slice (some ⟨gb, 0, none⟩) o.length m, .slice A3 c9.length c3] := by simpa using has_set zw9 1 (.slice A3 c9.length c3)
              have zrX : Has (w9.setCell ⟨w2.heap.size, 1, none⟩ (.slice A3 c9.length c3)) w.heap.size 26 #[.slice none 0 0, .slice none 0 0] := has_far zr9 (by show w.heap.size ≠ w2.heap.size; omega) _
              have e9 : gb ≠ w2.heap.size := by omega
              have roX := own_other ro9 (b := w2.heap.size) (fun e => e9 (by simpa [Value.ownBlock] using e)) 1 (.slice A3 c9.length c3)
              have rcX := own_other rc9 (b := w2.heap.size) (fun e => hfr e) 1 (.slice A3 c9.length c3)
              have cX := hc9o.setn (k := w2.heap.size) (by omega) (by omega) 1 (.slice A3 c9.length c3); have oX := only_setn ho9o (k := w2.heap.size) (by omega) 1 (.slice A3 c9.length c3)
              have ROX := Lib.hid roX; have RCX := Lib.hid rcX; have CX := Lib.hid cX; have OX := Lib.hid oX; have ZRX := Lib.hid zrX; clear roX rcX cX oX
              have fz0 := has_free zrX 0; have fz1 := has_free zrX 1; have zz0 := has_cell zrX 0 rfl; have zz1 := has_cell zrX 1 rfl; have zx0 := has_cell zwX 0 rfl; have zx1 := has_cell zwX 1 rfl
              clear zrX zwX zw9 zr9 zw zr ro9 rc9 hc9o ho9o hgrow hne1 hqz hfr
              go_wp2_with fail
              obtain ⟨g0, g1⟩ := res_cells ZRX.out (.slice (some ⟨gb, 0, none⟩) o.length m) (.slice A3 c9.length c3)
              refine bodyPost_ret (v := .agg #[.slice (some ⟨gb, 0, none⟩) o.length m, .slice A3 c9.length c3]) (by simp [results, Try.results12, go_sem, g0, g1]) rfl ?_
              exact any_close rfl (by omega) (by omega) ROX.out RCX.out (by omega) (by omega) CX.out hB hg OX.out rfl
      · skip
        go_simp
        generalize hX : (w6.alloc (.cells #[.int .i64 19990, .int .i64 (19999 + x9)] 57)) = w7
        have hb : Below w6.heap.size w6 w7 := by rw [← hX]; exact balloc _ _
        have hk : Has w7 w6.heap.size 57 #[.int .i64 19990, .int .i64 (19999 + x9)] := by rw [← hX]; exact has_new _ _ _
        clear hX
        have kk := own_o6 RO.out (only_bel (g := g) hb) (by omega); clear RO; have RO := Lib.hid kk; clear kk
        have kk := own_o6 RC.out (only_bel (g := g) hb) (by omega); clear RC; have RC := Lib.hid kk; clear kk
        replace zr := has_call zr hb
        replace zw := has_call zw hb
        have hmw7 := hb.size
        have kk := HC.out.bel hb; clear HC; have HC := Lib.hid kk; clear kk
        have kk := only_trans HO.out (only_bel (g := g) hb); clear HO; have HO := Lib.hid kk; clear kk hb
        have hsw7 := HO.out.size
        have zs := hk; clear hk; have hlzs := has_lt zs
        refine hK.out _ _ trivial (fun _ => ?_)
        clear hK K
        try simp only [Act.put, List.setIfInBounds_toArray, List.set_cons_zero, List.set_cons_succ]
        refine wpAnyH_ready (rs := [1]) (by kernel_rfl) (by simp) ?_
        refine AllReadyH.cons rfl (fun K hK => ?_) AllReadyH.nil
        · skip
          have zc1 := has_cell zw 1 rfl
          go_simp
          clear zc1
          refine hK.out _ _ trivial (fun _ => ?_)
          clear hK K
          try simp only [Act.put, List.setIfInBounds_toArray, List.set_cons_zero, List.set_cons_succ]
          refine wpAnyH_ready (rs := [7]) (by kernel_rfl) (by simp) ?_
          refine AllReadyH.cons rfl (fun K hK => ?_) AllReadyH.nil
          · skip
            refine step_app rfl _ _ 24 rfl b2 57 i0 (.agg #[.int .i64 0, .int .i64 0]) 2 16 Try.underlying24 I0.out Z0.out Z1.out Z2.out rfl (by decide) _ _ _ rfl RC.out _ 1 1 (#[.int .i64 19990, .int .i64 (19999 + x9)] : Array Value).toList rfl (src_has6 zs 2 rfl (by simp [Value.oneCell'])) (by unfold maxLen; omega) (by omega) (by omega) ?_
            intro A3 c3 w9 hown1 hgrow _
            have hne1 : ∀ q, (Value.slice A2 c.length m').ownBlock = some q → b2 ≤ q := fun q e => (RC.out.lt _ e).1
            have hqz := HCQ.out
            have zw9 : Has w9 w2.heap.size 26 #[.slice (some ⟨gb, 0, none⟩) o.length m, .slice A2 c.length m'] := (hgrow.block w2.heap.size (has_lt zw) (fun e => by have := hqz w2.heap.size e.symm; omega)).trans zw
            have zr9 : Has w9 w.heap.size 26 #[.slice none 0 0, .slice none 0 0] := (hgrow.block w.heap.size (has_lt zr) (fun e => by have := hne1 w.heap.size e.symm; omega)).trans zr
            have ro9 := RO.out.kept hgrow (.inr (fun e => HDIS.out gb rfl e.symm))
            have hc9o : Cur w9 B g := HC.out.only fun q hq hq2 => hgrow.block q hq (fun e => by have := hne1 q e.symm; omega)
            have ho9o : Only w g w9 := ⟨hgrow.os.trans HO.out.os, hgrow.tape.trans HO.out.tape, hgrow.output.trans HO.out.output, Nat.le_trans HO.out.size hgrow.size, fun j hj hne => (hgrow.block j (Nat.lt_of_lt_of_le hj HO.out.size) (fun e => by have := hne1 j e.symm; omega)).trans (HO.out.block j hj hne)⟩
            have rc9 := sp_more (x := 19990) (y := 19999 + x9) hown1
            have hs9 := hgrow.size
            obtain ⟨c9, hc9⟩ : ∃ c9, c ++ [(19990, 19999 + x9)] = c9 := ⟨_, rfl⟩
            have hcl : c.length + 1 = c9.length := by rw [← hc9]; simp
            rw [hc9] at rc9; rw [hcl] at rc9 ⊢
            have hl9 : c9.length ≤ 21 := by omega
            clear hown1 hcl hc9
            have hfr := row_not rc9 zw9
            refine hK.out _ _ trivial (fun _ => ?_)
            clear hK K
            try simp only [Act.put, List.setIfInBounds_toArray, List.set_cons_zero, List.set_cons_succ]
            refine any_take (i := 8) (some 55) (.pointer (some ⟨w2.heap.size, 1, none⟩)) rfl rfl (by kernel_rfl) (by kernel_rfl) (by kernel_rfl) (fun _ _ _ h => h) rfl (fun W hSw => ?_) (trivial) ?_
            · (try dsimp only at hSw); go_simp <;> with_reducible rfl
            try simp only [Act.put, List.setIfInBounds_toArray, List.set_cons_zero, List.set_cons_succ]
            refine wpAnyH_ready (rs := [9]) (by kernel_rfl) (by simp) ?_
            refine AllReadyH.cons rfl (fun K hK => ?_) AllReadyH.nil
            · skip
              have zx1 := has_cell zw9 1 rfl; have zf1 := has_free zw9 1
              go_simp
              clear zx1 zf1
              refine hK.out _ _ trivial (fun _ => ?_)
              clear hK K
              try simp only [Act.put, List.setIfInBounds_toArray, List.set_cons_zero, List.set_cons_succ]
              refine wpAnyH_done (by kernel_rfl) ?_ _
              have zwX : Has (w9.setCell ⟨w2.heap.size, 1, none⟩ (.slice A3 c9.length c3)) w2.heap.size 26 #[.slice (some ⟨gb, 0, none⟩) o.length m, .slice A3 c9.length c3] := by simpa using has_set zw9 1 (.slice A3 c9.length c3)
              have zrX : Has (w9.setCell ⟨w2.heap.size, 1, none⟩ (.slice A3 c9.length c3)) w.heap.size 26 #[.slice none 0 0, .slice none 0 0] := has_far zr9 (by show w.heap.size ≠ w2.heap.size; omega) _
              have e9 : gb ≠ w2.heap.size := by omega
              have roX := own_other ro9 (b := w2.heap.size) (fun e => e9 (by simpa [Value.ownBlock] using e)) 1 (.slice A3 c9.length c3)
              have rcX := own_other rc9 (b := w2.heap.size) (fun e => hfr e) 1 (.slice A3 c9.length c3)
              have cX := hc9o.setn (k := w2.heap.size) (by omega) (by omega) 1 (.slice A3 c9.length c3); have oX := only_setn ho9o (k := w2.heap.size) (by omega) 1 (.slice A3 c9.length c3)
              have ROX := Lib.hid roX; have RCX := Lib.hid rcX; have CX := Lib.hid cX; have OX := Lib.hid oX; have ZRX := Lib.hid zrX; clear roX rcX cX oX
              have fz0 := has_free zrX 0; have fz1 := has_free zrX 1; have zz0 := has_cell zrX 0 rfl; have zz1 := has_cell zrX 1 rfl; have zx0 := has_cell zwX 0 rfl; have zx1 := has_cell zwX 1 rfl
              clear zrX zwX zw9 zr9 zw zr ro9 rc9 hc9o ho9o hgrow hne1 hqz hfr
              go_wp2_with fail
              obtain ⟨g0, g1⟩ := res_cells ZRX.out (.slice (some ⟨gb, 0, none⟩) o.length m) (.slice A3 c9.length c3)
              refine bodyPost_ret (v := .agg #[.slice (some ⟨gb, 0, none⟩) o.length m, .slice A3 c9.length c3]) (by simp [results, Try.results12, go_sem, g0, g1]) rfl ?_
              exact any_close rfl (by omega) (by omega) ROX.out RCX.out (by omega) (by omega) CX.out hB hg OX.out rfl
  · skip
    have zrc0 := has_cell zr 0 rfl; have zrc1 := has_cell zr 1 rfl
    have zrlt := has_lt zr
    have zwc0 := has_cell zw 0 rfl; have zwc1 := has_cell zw 1 rfl
    have zwlt := has_lt zw
    have ZRH := Lib.hid zr; clear zr
    have ZWH := Lib.hid zw; clear zw
    go_wp2_with fail
    clear zrc0 zrc1 zrlt zwc0 zwc1 zwlt
    have zr := ZRH.out; clear ZRH
    have zw := ZWH.out; clear ZWH
    have ZR := Lib.hid zr; have ZWH := Lib.hid zw; clear zr zw
    go_loopw [] (fun wr => ∃ (A3 : Option Addr) (n3 : Nat) (cc : List (Int × Int)), cc.length ≤ 21 ∧ Has wr w2.heap.size 26 #[.slice (some ⟨gb, 0, none⟩) o.length m, .slice A3 cc.length n3] ∧ Has wr w.heap.size 26 #[.slice none 0 0, .slice none 0 0] ∧ wr.ownsRow b1 57 2 (.slice (some ⟨gb, 0, none⟩) o.length m) o.length (cellsL o) ∧ wr.ownsRow b2 57 2 (.slice A3 cc.length n3) cc.length (cellsL cc) ∧ b2 ≤ wr.heap.size ∧ Cur wr B g ∧ Only w g wr) (fun W => 21 - lenC W (w2.heap.size))
    case atStart => exact ⟨A2, m', c, by omega, ZWH.out, ZR.out, RO.out, RC.out, by omega, HC.out, HO.out⟩
    case round =>
      have bz2 : w2.heap.size < w5.heap.size := has_lt ZWH.out
      clear RO RC HC HO ZR ZWH
      obtain ⟨A3, n3, cc, hcl, hzw, hzr, hro, hrc, hb2w, hC, hO⟩ := hrel
      have HC := Lib.hid hC; have HO := Lib.hid hO; have RO := Lib.hid hro; have RC := Lib.hid hrc; clear hC hO hro hrc
      have hsw := HO.out.size
      have zlt := has_lt hzw; have rlt := has_lt hzr
      have ZWH := Lib.hid hzw; have ZRH := Lib.hid hzr
      have zc0 := has_cell hzw 0 rfl; have zc1 := has_cell hzw 1 rfl; have zr0 := has_cell hzr 0 rfl; have zr1 := has_cell hzr 1 rfl; have zf0 := has_free hzr 0; have zf1 := has_free hzr 1
      clear hzw hzr
      by_cases hlt : (cc.length : Int) < 21
      rotate_left
      · skip
        go_wp2_with fail
        obtain ⟨g0, g1⟩ := res_cells ZRH.out (.slice (some ⟨gb, 0, none⟩) o.length m) (.slice A3 cc.length n3)
        refine bodyPost_ret (v := .agg #[.slice (some ⟨gb, 0, none⟩) o.length m, .slice A3 cc.length n3]) (by simp [results, Try.results12, go_sem, g0, g1]) rfl ?_
        exact any_close rfl (by omega) (by omega) RO.out RC.out hlo hcl HC.out hB hg HO.out rfl
      clear zr0 zr1 zf0 zf1
      go_wp2_with (at_builtin; go_must (refine list_app rfl _ _ 24 rfl b2 57 i0 (.agg #[.int .i64 0, .int .i64 0]) 2 16 Try.underlying24 I0.out Z0.out Z1.out Z2.out rfl (by decide) _ _ _ rfl (RC.out.alloc _) _ 1 1 (#[.int .i64 (1000 * (cc.length : Int)), .int .i64 (1000 * (cc.length : Int) + 5)] : Array Value).toList rfl (src6 _ _ (wr.heap.size) rfl #[.int .i64 (1000 * (cc.length : Int)), .int .i64 (1000 * (cc.length : Int) + 5)] 2 rfl (by simp [Value.oneCell'])) (by unfold maxLen; omega) (by omega) (by simp; omega) ?_))
      intro A4 c4 w9 hown1 hgrow _
      have hbA := balloc wr (.cells #[.int .i64 (1000 * (cc.length : Int)), .int .i64 (1000 * (cc.length : Int) + 5)] 57)
      have hne1 : ∀ q, (Value.slice A3 cc.length n3).ownBlock = some q → b2 ≤ q := fun q e => (RC.out.lt _ e).1
      have hneZ : (Value.slice A3 cc.length n3).ownBlock ≠ some (w2.heap.size) := row_not RC.out ZWH.out
      have hneR : (Value.slice A3 cc.length n3).ownBlock ≠ some w.heap.size := row_not RC.out ZRH.out
      have zwA := has_call ZWH.out hbA
      have zrA := has_call ZRH.out hbA
      have zw9 : Has w9 (w2.heap.size) 26 #[.slice (some ⟨gb, 0, none⟩) o.length m, .slice A3 cc.length n3] := (hgrow.block (w2.heap.size) (has_lt zwA) (fun e => hneZ e.symm)).trans zwA
      have zr9 : Has w9 w.heap.size 26 #[.slice none 0 0, .slice none 0 0] := (hgrow.block w.heap.size (has_lt zrA) (fun e => hneR e.symm)).trans zrA
      have ro9 := (RO.out.alloc (.cells #[.int .i64 (1000 * (cc.length : Int)), .int .i64 (1000 * (cc.length : Int) + 5)] 57)).kept hgrow (.inr (fun e => by have := hne1 gb e.symm; omega))
      have HA := Lib.hid (only_trans HO.out (only_alloc g (w := wr) (.cells #[.int .i64 (1000 * (cc.length : Int)), .int .i64 (1000 * (cc.length : Int) + 5)] 57)))
      have CA := Lib.hid (HC.out.bel hbA)
      have hc9o : Cur w9 B g := CA.out.only fun q hq hq2 => hgrow.block q hq (fun e => by have := hne1 q e.symm; omega)
      have ho9o : Only w g w9 := ⟨hgrow.os.trans HA.out.os, hgrow.tape.trans HA.out.tape, hgrow.output.trans HA.out.output, Nat.le_trans HA.out.size hgrow.size, fun j hj hne => (hgrow.block j (Nat.lt_of_lt_of_le hj HA.out.size) (fun e => by have := hne1 j e.symm; omega)).trans (HA.out.block j hj hne)⟩
      have rc9 := sp_more (x := 1000 * (cc.length : Int)) (y := 1000 * (cc.length : Int) + 5) hown1
      have hs9 : wr.heap.size + 1 ≤ w9.heap.size := by have := hgrow.size; simpa using this
      obtain ⟨c9, hc9⟩ : ∃ c9, cc ++ [(1000 * (cc.length : Int), 1000 * (cc.length : Int) + 5)] = c9 := ⟨_, rfl⟩
      have hcl9 : cc.length + 1 = c9.length := by rw [← hc9]; simp
      rw [hc9] at rc9; rw [hcl9] at rc9 ⊢
      have hl9 : c9.length ≤ 21 ∧ cc.length < c9.length := by omega
      obtain ⟨hl90, hl91⟩ := hl9
      have hfr := row_not rc9 zw9
      have hm1 : lenC wr (w2.heap.size) = cc.length := lenC_is ZWH.out
      clear hown1 hcl9 hc9 zc0 zc1
      have zx1 := has_cell zw9 1 rfl; have zf1 := has_free zw9 1
      have zwX : Has (w9.setCell ⟨w2.heap.size, 1, none⟩ (.slice A4 c9.length c4)) (w2.heap.size) 26 #[.slice (some ⟨gb, 0, none⟩) o.length m, .slice A4 c9.length c4] := by simpa using has_set zw9 1 (.slice A4 c9.length c4)
      have zrX : Has (w9.setCell ⟨w2.heap.size, 1, none⟩ (.slice A4 c9.length c4)) w.heap.size 26 #[.slice none 0 0, .slice none 0 0] := has_far zr9 (by show w.heap.size ≠ w2.heap.size; omega) _
      have e9 : gb ≠ w2.heap.size := by omega
      have roX := own_other ro9 (b := w2.heap.size) (fun e => e9 (by simpa [Value.ownBlock] using e)) 1 (.slice A4 c9.length c4)
      have rcX := own_other rc9 (b := w2.heap.size) (fun e => hfr e) 1 (.slice A4 c9.length c4)
      have cX := hc9o.setn (k := w2.heap.size) (by omega) (by omega) 1 (.slice A4 c9.length c4); have oX := only_setn ho9o (k := w2.heap.size) (by omega) 1 (.slice A4 c9.length c4)
      have hm2 := lenC_is zwX
      have ROX := Lib.hid roX; have RCX := Lib.hid rcX; have CX := Lib.hid cX; have OX := Lib.hid oX; have ZRX := Lib.hid zrX; have ZWX := Lib.hid zwX; have HM1 := Lib.hid hm1; have HM2 := Lib.hid hm2
      clear roX rcX cX oX zrX zwX hm1 hm2 zw9 zr9 zwA zrA ro9 rc9 hc9o ho9o hgrow hne1 hneZ hneR hfr hbA HA CA
      go_wp2_with fail
      go_roundw
      case rel => exact ⟨A4, c4, c9, hl90, ZWX.out, ZRX.out, ROX.out, RCX.out, by simp only [size_set]; omega, CX.out, OX.out⟩
      case measure => rw [HM1.out, HM2.out]; omega
  · skip
    have e0 : (x0 == 0) = false := by rw [beq_eq_false_iff_ne]; omega
    have e1 : (x0 == 1) = false := by rw [beq_eq_false_iff_ne]; omega
    have e2 : (x0 == 2) = false := by rw [beq_eq_false_iff_ne]; omega
    have e3 : (x0 == 3) = false := by rw [beq_eq_false_iff_ne]; omega
    have zrc0 := has_cell zr 0 rfl; have zrc1 := has_cell zr 1 rfl
    have zrf0 := has_free zr 0; have zrf1 := has_free zr 1
    have zrlt := has_lt zr
    have zwc0 := has_cell zw 0 rfl; have zwc1 := has_cell zw 1 rfl
    have zwlt := has_lt zw
    have ZRH := Lib.hid zr; clear zr
    have ZWH := Lib.hid zw; clear zw
    go_wp2_with fail
    obtain ⟨g0, g1⟩ := res_cells (ZRH.out) (.slice (some ⟨gb, 0, none⟩) o.length m) (.slice A2 c.length m')
    refine bodyPost_ret (v := .agg #[.slice (some ⟨gb, 0, none⟩) o.length m, .slice A2 c.length m']) (by simp [results, Try.results12, go_sem, g0, g1]) rfl ?_
    exact any_close rfl (by omega) (by omega) (RO.out) (RC.out) hlo (by omega) (HC.out) hB hg (HO.out) rfl
end Go.Proofs.Ytfkhhefphbhppaa
